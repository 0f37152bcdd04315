/-
  Several small texts in one: Zeros, NewSess, ScrPure, Lits, TellRef, LoosePure, CopySess, CopyMach, LooseRef, HereRef, MachWord, Lits2.
-/
import Derived.Test.YtnjognmnbpcaaaaGreatZlab
import Derived.Test.YtnjognmnbpcaaaaGreatZhMachRef
import Derived.Test.YtnjognmnbpcaaaaGreatZlac
import Derived.Test.YtnjognmnbpcaaaaGreatZlae
import Derived.Test.YtnjognmnbpcaaaaGreatZlad
import Derived.Test.YtnjognmnbpcaaaaGreatZhArenaNewRef
import Derived.Great.BuildSlice
namespace Go.Proofs.YtnjognmnbpcaaaaGreat
open Go.RowKit
theorem Tryz.infoEvent : (Tryz.prog.info? 88).map (fun i => (i.zero, i.size, i.bytes)) = some (some (.agg #[.int .i64 0, .int .i64 0, .int .i64 0, .int .i64 0]), 4, 32) := by kernel_rfl
def zeroML : List Value := [.slice none 0 0, .slice none 0 0, .slice none 0 0, .slice none 0 0, .int .i64 0, .int .i64 0, .int .i64 0, .int .i64 0, .int .i64 0, .slice none 0 0, .slice none 0 0]
theorem zeroM : ((Tryz.prog.info? 28).bind (·.zero)).map (·.cells) = some zeroML.toArray := by kernel_rfl
def zeroSL : List Value := [.int .i64 0, .int .i64 0, .int .i64 0, .slice none 0 0, .int .i64 0, .int .i64 0, .int .i64 0, .int .i64 0, .int .i64 0, .int .i64 0, .slice none 0 0, .slice none 0 0, .int .i64 0, .int .i64 0, .int .i64 0, .int .i64 0, .int .i64 0]
theorem zeroS : ((Tryz.prog.info? 44).bind (·.zero)).map (·.cells) = some zeroSL.toArray := by kernel_rfl
def zeroAL : List Value := [.slice none 0 0, .slice none 0 0, .slice none 0 0, .slice none 0 0]
theorem zeroA : ((Tryz.prog.info? 23).bind (·.zero)).map (·.cells) = some zeroAL.toArray := by kernel_rfl
theorem load_mac {W : World} {b : Nat} {l : List Value} (h : Blk W b l) (hl : l.length = 11) : (loadVar 28 ⟨b, 0, none⟩).run Tryz.prog W = .ok (.agg l.toArray) W := by
  cases hd : Tryz.prog.underlying 28 with
  | none => have := Tryz.rowMac; rw [hd] at this; cases this
  | some d =>
    have hr : d.isRow = true := by have := Tryz.rowMac; rw [hd] at this; exact this
    exact run_loadVar_mid W b 0 28 l d h.range hd hr (by rw [hl]; exact Tryz.sizeMac)
set_option maxRecDepth 100000 in
/-- What a function hands back whose one result is a machine; a machine and a number. -/
theorem ret_mach {fn : Func} {s : Nat} (hf : fn.results = #[.cell s 28]) {tmps : Array Value} {W : World} {b : Nat} {l : List Value} (h : Blk W b l) (hl : l.length = 11) (h2 : tmps.getD s undef = .pointer (some ⟨b, 0, none⟩)) :
    (results fn tmps).run Tryz.prog W = .ok (.agg l.toArray) W := by
  have e : (results fn tmps).run Tryz.prog W = ((asAddr (tmps.getD s undef)).run Tryz.prog W).andThen fun a w₁ => (loadVar 28 a).run Tryz.prog w₁ := by
    simp only [results, hf]
    simp [Sem.run_bind, Result.andThen]
  rw [e, h2]
  exact load_mac h hl
set_option maxRecDepth 100000 in
theorem ret_mach2 {fn : Func} {s t : Nat} (hf : fn.results = #[.cell s 28, .tmp t]) {tmps : Array Value} {W : World} {b : Nat} {l : List Value} {E : Value} (h : Blk W b l) (hl : l.length = 11) (h2 : tmps.getD s undef = .pointer (some ⟨b, 0, none⟩)) (h3 : tmps.getD t undef = E) :
    (results fn tmps).run Tryz.prog W = .ok (.tuple #[.agg l.toArray, E]) W := by
  rw [results_cell_tmp hf, h2, h3]
  show ((loadVar 28 ⟨b, 0, none⟩).run Tryz.prog W).andThen _ = _
  rw [load_mac h hl]
  rfl
theorem load_ses {W : World} {b : Nat} {l : List Value} (h : Blk W b l) (hl : l.length = 17) : (loadVar 44 ⟨b, 0, none⟩).run Tryz.prog W = .ok (.agg l.toArray) W := by
  cases hd : Tryz.prog.underlying 44 with
  | none => have := Tryz.rowSess; rw [hd] at this; cases this
  | some d =>
    have hr : d.isRow = true := by have := Tryz.rowSess; rw [hd] at this; exact this
    exact run_loadVar_mid W b 0 44 l d h.range hd hr (by rw [hl]; exact Tryz.sizeSess)
set_option maxRecDepth 100000 in
/-- What a function hands back whose one result is a session. -/
theorem ret_ses {fn : Func} {s : Nat} (hf : fn.results = #[.cell s 44]) {tmps : Array Value} {W : World} {b : Nat} {l : List Value} (h : Blk W b l) (hl : l.length = 17) (h2 : tmps.getD s undef = .pointer (some ⟨b, 0, none⟩)) :
    (results fn tmps).run Tryz.prog W = .ok (.agg l.toArray) W := by
  have e : (results fn tmps).run Tryz.prog W = ((asAddr (tmps.getD s undef)).run Tryz.prog W).andThen fun a w₁ => (loadVar 44 a).run Tryz.prog w₁ := by
    simp only [results, hf]
    simp [Sem.run_bind, Result.andThen]
  rw [e, h2]
  exact load_ses h hl
set_option maxRecDepth 100000 in
theorem ret_sess2 {fn : Func} {s t : Nat} (hf : fn.results = #[.cell s 44, .tmp t]) {tmps : Array Value} {W : World} {b : Nat} {l : List Value} {E : Value} (h : Blk W b l) (hl : l.length = 17) (h2 : tmps.getD s undef = .pointer (some ⟨b, 0, none⟩)) (h3 : tmps.getD t undef = E) :
    (results fn tmps).run Tryz.prog W = .ok (.tuple #[.agg l.toArray, E]) W := by
  rw [results_cell_tmp hf, h2, h3]
  show ((loadVar 44 ⟨b, 0, none⟩).run Tryz.prog W).andThen _ = _
  rw [load_ses h hl]
  rfl
theorem set_self {L : List Itm} {i : Nat} {x : Itm} (h : L[i]? = some x) : L.set i x = L := by
  apply List.ext_getElem?
  intro j
  rw [List.getElem?_set]
  by_cases e : i = j
  · subst e; rw [if_pos rfl, h]; simp [(List.getElem?_eq_some_iff.1 h).1]
  · rw [if_neg e]
end Go.Proofs.YtnjognmnbpcaaaaGreat
namespace Go.Proofs.YtnjognmnbpcaaaaGreat
open Go.RowKit
set_option linter.unusedSimpArgs false
set_option linter.unusedVariables false
def newSess (id l c : Int) (p : List Int) : PSess := ⟨[id, l, c, 0, 0, 0, 0, 0, 0, 0, 0, 0, 0, 0], p, [], []⟩
def zeroSess : PSess := ⟨[0, 0, 0, 0, 0, 0, 0, 0, 0, 0, 0, 0, 0, 0], [], [], []⟩
def newSessP (id l c : Int) (p : List Int) : PSess × Int := if startMay id l c (p.length / 4) (lz p) = true then (newSess id l c p, 0) else (zeroSess, 1100)
theorem sesOwn_zero (D : Nat → Prop) (W : World) : SesOwn D W ⟨noSl, noSl, noSl⟩ zeroSess :=
  ⟨⟨rfl, slIs_none W 4, slIs_none W 3, slIs_none W 3⟩, fun j hj => slOwn_none _ _ (by unfold SesM.sl; split <;> rfl), fun i j _ _ h0 _ => absurd h0 (by unfold SesM.sl; split <;> exact Nat.lt_irrefl 0)⟩
theorem sesOwn_new {D : Nat → Prop} {W : World} {s : Sl} {p : List Int} (id l c : Int) (h : ListOwn D 47 4 W s p) : SesOwn D W ⟨s, noSl, noSl⟩ (newSess id l c p) :=
  ⟨⟨rfl, h.is, slIs_none W 3, slIs_none W 3⟩, fun j hj => (by
    have : j = 0 ∨ j = 1 ∨ j = 2 := by omega
    rcases this with rfl | rfl | rfl
    · exact h.own
    · exact slOwn_none _ _ rfl
    · exact slOwn_none _ _ rfl), fun i j hij hj h0 h1 => (by
    have : j = 1 ∨ j = 2 := by omega
    rcases this with rfl | rfl <;> exact absurd h1 (Nat.lt_irrefl 0))⟩
set_option maxRecDepth 100000 in
set_option maxHeartbeats 4000000 in
theorem rnewSess_any (id l c : Int) (s : Sl) (p : List Int) (w : World) (h : SlIs w 4 s p) :
    Calls Tryz.prog 62 #[startA id l c (.slice s.a s.n s.c)] w fun e w' => ∃ q, e = .returned (.tuple #[.agg (sessOf q (newSessP id l c p).1).toArray, .int .i64 (newSessP id l c p).2]) ∧ SesOwn (fun k => w.heap.size ≤ k ∧ k < w'.heap.size) w' q (newSessP id l c p).1 ∧ Below w.heap.size w w' := by
  have HP := hide h
  have HS := hide (St.refl w)
  have hn : p.length / 4 = s.n := by rw [h.1, Nat.mul_div_cancel _ (by decide)]
  have HC := hide fun (W : World) (hb : Below w.heap.size w W) => rstartMay_any id l c s.a s.n s.c (lz p) W (by have := h.2.1.1; omega) (h.below hb).2.2
  have e0 : startMay id l c s.n (lz p) = false → newSessP id l c p = (zeroSess, 1100) := fun hh => by unfold newSessP; rw [hn, hh]; rfl
  have e1 : startMay id l c s.n (lz p) = true → newSessP id l c p = (newSess id l c p, 0) := fun hh => by unfold newSessP; rw [hn, hh]; rfl
  replace e0 := hide e0
  replace e1 := hide e1
  clear hn h
  unfold startA at *
  go_enter Tryz.func62, Tryz.ntmps62
  go_wp2_with (first | ((with_reducible refine isList ?_); first | (refine st_box HS _ _ rfl rfl _ rfl ?_; clear HS; intro W bs HS) | (refine st_alloc HS _ rfl rfl zeroSL zeroS ?_; clear HS; intro W br HS) | (refine st_loadA HS 1 rfl _ _ rfl rfl rfl (by decide +kernel) (by kernel_rfl) ?_)))
  refine (HC.out _ HS.out.below).mono ?_
  rintro e W1 ⟨rfl, hb⟩
  replace HS := hide (HS.out.on hb)
  clear HC hb
  cases hm : startMay id l c s.n (lz p)
  · go_wp2_with (first | ((with_reducible refine isList ?_); first | (refine st_storeA HS 0 rfl _ _ _ rfl rfl rfl _ rfl rfl (by kernel_rfl) rfl ?_; clear HS; intro W HS)))
    rw [e0.out hm]
    exact bodyPost_ret (ret_sess2 Tryz.results62 (HS.out.blk 0 rfl) rfl rfl rfl) rfl ⟨⟨noSl, noSl, noSl⟩, rfl, sesOwn_zero _ _, HS.out.below⟩
  · have B1 := HS.out.blk 1 rfl
    go_upto_region 3 with (first | ((with_reducible refine isList ?_); first | (refine st_load1 HS 0 rfl _ _ rfl _ rfl rfl (by decide +kernel) rfl ?_)))
    refine wp_region_mask [true, true, true, true, true, true, false, true, true, false, false, false, false] [false, false, false, false, false, false, true, false, false, true, true, true, true] [0, 0, 0, 1, 2] (fun w' => Blk w' bs [.int .i64 id, .int .i64 l, .int .i64 c, .slice s.a s.n s.c]) (by kernel_rfl) (by kernel_rfl) (by kernel_rfl) (by decide +kernel) B1.drew ?_
    intro kne
    simp only [pickAt]
    repeat (first | ((first | (refine wpQuiet_ld _ _ rfl ⟨bs, 0, none⟩ rfl rfl (by decide +kernel) (fun w hC => hC.cell 0 _ rfl) ?_) | (refine wpQuiet_ld _ _ rfl ⟨bs, 1, none⟩ rfl rfl (by decide +kernel) (fun w hC => hC.cell 1 _ rfl) ?_) | (refine wpQuiet_ld _ _ rfl ⟨bs, 2, none⟩ rfl rfl (by decide +kernel) (fun w hC => hC.cell 2 _ rfl) ?_) | (refine wpQuiet_ld _ _ rfl ⟨bs, 3, none⟩ rfl rfl (by decide +kernel) (fun w hC => hC.cell 3 _ rfl) ?_)); simp only [Act.put, List.setIfInBounds_toArray, List.set_cons_zero, List.set_cons_succ]) | go_big_quiet_step (fail))
    refine wpQuiet_nil ?_
    clear kne B1
    replace HS := hide HS.out.drew
    generalize W1.drew = Wd at *
    refine wpRest_cons rfl rfl fun K hK => ?_
    refine stw_lit0 HS _ 47 4 rfl Tryz.underlying40 (by kernel_rfl) ?_
    clear HS
    intro W2 be HS
    refine hK _ _ (fun _ => InC.mk (HS.out.blk 2 rfl)) ?_
    clear hK K
    simp only [Act.put, List.setIfInBounds_toArray, List.set_cons_zero, List.set_cons_succ]
    refine wpRest_cons rfl rfl fun K hK => ?_
    refine stw_copy HS 0 rfl (HP.out.below HS.out.below) _ _ _ rfl _ _ Tryz.underlying40 Tryz.infoInst rfl (by decide) rfl rfl rfl ?_
    clear HS
    intro W3 D3 s3 hs3 HS
    refine hK _ _ (fun _ => InC.mk (HS.out.blk 2 rfl)) ?_
    clear hK K
    simp only [Act.put, List.setIfInBounds_toArray, List.set_cons_zero, List.set_cons_succ]
    refine wpRest_cons rfl rfl fun K hK => ?_
    go_big_op
    refine hK _ _ (fun _ => InC.mk (HS.out.blk 2 rfl)) ?_
    clear hK K
    refine wpRest_cons rfl rfl fun K hK => ?_
    refine stw_storeA HS 1 rfl _ _ _ rfl rfl (sessOf ⟨s3, noSl, noSl⟩ (newSess id l c p)) rfl rfl (by kernel_rfl) rfl ?_
    clear HS
    intro W4 HS
    refine hK _ _ (fun h => by cases h) ?_
    clear hK K
    simp only [Act.put, List.setIfInBounds_toArray, List.set_cons_zero, List.set_cons_succ]
    refine wpRest_assign _ rfl rfl rfl (wpRest_nil ?_)
    simp only [Act.put, List.setIfInBounds_toArray, List.set_cons_zero, List.set_cons_succ]
    refine NoPanic.normal ?_
    go_wp2
    rw [e1.out hm]
    refine bodyPost_ret (ret_sess2 Tryz.results62 (HS.out.blk 1 rfl) rfl rfl rfl) rfl ⟨⟨s3, noSl, noSl⟩, rfl, ?_, HS.out.below⟩
    have h0 := HS.out.get 0 (x := slI D3 47 4 s3 p) rfl
    have k0 := (HS.out.here 0 (slI D3 47 4 s3 p) rfl).2.2
    exact (sesOwn_new id l c h0).mono k0
end Go.Proofs.YtnjognmnbpcaaaaGreat
namespace Go.Proofs.YtnjognmnbpcaaaaGreat
open Go.RowKit
set_option linter.unusedSimpArgs false
set_option linter.unusedVariables false
structure PStart where
  num : List Int
  prog : List Int
structure PScript where
  vals : List (List Int)
  ceil : Int
  starts : List PStart
  slots : List Int
def noStart : PStart := ⟨[], []⟩
def PScript.lv (S : PScript) (g : Nat) : List Int := S.vals.getD g []
def PScript.at (S : PScript) (i : Nat) : PStart := S.starts.getD i noStart
/-- Where a script's lists lie. -/
structure ScrM where
  v : Nat → Sl
  t : Sl
  p : Nat → Sl
  o : Sl
def startOf (s : Sl) (x : PStart) : List Value := [.int .i64 (lz x.num 0), .int .i64 (lz x.num 1), .int .i64 (lz x.num 2), .slice s.a s.n s.c]
def startCell (p : Nat → Sl) (X : List PStart) (j : Nat) : Value := (startOf (p (j / 4)) (X.getD (j / 4) noStart)).getD (j % 4) undef
structure StaIs (W : World) (s : Sl) (p : Nat → Sl) (X : List PStart) : Prop where
  len : X.length = s.n
  fit : s.n * 48 ≤ 140737488351232 ∧ s.n ≤ s.c ∧ (s.a = none → s.n = 0 ∧ s.c = 0)
  row : Row W s.a (s.n * 4) (startCell p X)
  each : ∀ i, i < s.n → (X.getD i noStart).num.length = 3 ∧ SlIs W 4 (p i) (X.getD i noStart).prog
def scrL (B : ScrM) (S : PScript) : List Value := [.slice (B.v 0).a (B.v 0).n (B.v 0).c, .slice (B.v 1).a (B.v 1).n (B.v 1).c, .slice (B.v 2).a (B.v 2).n (B.v 2).c, .slice (B.v 3).a (B.v 3).n (B.v 3).c, .int .i64 S.ceil, .slice B.t.a B.t.n B.t.c, .slice B.o.a B.o.n B.o.c]
def scrA (B : ScrM) (S : PScript) : Value := .agg (scrL B S).toArray
structure ScrIs (W : World) (B : ScrM) (S : PScript) : Prop where
  four : S.vals.length = 4
  vals : ∀ g, g < 4 → SlIs W 1 (B.v g) (S.lv g)
  starts : StaIs W B.t B.p S.starts
  slots : SlIs W 2 B.o S.slots
theorem StaIs.below {W W' : World} {s : Sl} {p : Nat → Sl} {X : List PStart} (h : StaIs W s p X) (hb : Below W.heap.size W W') : StaIs W' s p X := ⟨h.len, h.fit, h.row.below hb (Nat.le_refl _), fun i hi => ⟨(h.each i hi).1, (h.each i hi).2.below hb⟩⟩
theorem ScrIs.below {W W' : World} {B : ScrM} {S : PScript} (h : ScrIs W B S) (hb : Below W.heap.size W W') : ScrIs W' B S := ⟨h.four, fun g hg => (h.vals g hg).below hb, h.starts.below hb, h.slots.below hb⟩
/-- A Start's cells in the list. -/
theorem StaIs.range {W : World} {s : Sl} {p : Nat → Sl} {X : List PStart} (h : StaIs W s p X) {i : Nat} (hi : i < s.n) : ∃ b off, s.a = some ⟨b, off, none⟩ ∧ b < W.heap.size ∧ W.rangeAt b (off + i * 4) (startOf (p i) (X.getD i noStart)) := by
  obtain ⟨b, off, e, hb, _⟩ := h.row (i * 4 + 0) (by omega)
  refine ⟨b, off, e, hb, fun j v hv => ?_⟩
  have hj : j < 4 := by
    have := (List.getElem?_eq_some_iff.1 hv).1
    simpa [startOf] using this
  obtain ⟨b', off', e', _, hc⟩ := h.row (i * 4 + j) (by omega)
  rw [e] at e'
  simp only [Option.some.injEq, Addr.mk.injEq, and_true] at e'
  obtain ⟨rfl, rfl⟩ := e'
  rw [Nat.add_assoc, hc]
  unfold startCell
  rw [show (i * 4 + j) / 4 = i by omega, show (i * 4 + j) % 4 = j by omega]
  generalize startOf (p i) (X.getD i noStart) = l at hv ⊢
  rw [List.getD_eq_getElem?_getD, hv]
  rfl
def PScript.lens (S : PScript) (g : Nat) : Sl := ⟨none, (S.lv g).length, 0⟩
def PScript.vz (S : PScript) (g : Nat) : Nat → Int := lz (S.lv g)
/-- A level's words, of these values. -/
def wordsOf (l : List Int) : List Int := (List.range (l.length * 3)).map fun j => if j % 3 = 0 then lz l (j / 3) else 0
def valsOk (S : PScript) : Bool := newOk S.lens S.vz
def newWords (S : PScript) : List (List Int) := bif valsOk S then [wordsOf (S.lv 0), wordsOf (S.lv 1), wordsOf (S.lv 2), wordsOf (S.lv 3)] else [[], [], [], []]
def startOk (x : PStart) : Bool := startMay (lz x.num 0) (lz x.num 1) (lz x.num 2) (x.prog.length / 4) (lz x.prog)
def initS (x : PStart) : PSess := newSess (lz x.num 0) (lz x.num 1) (lz x.num 2) x.prog
/-- The machine as it grows: with so many sessions. -/
def partM (S : PScript) (k : Nat) : PMach := ⟨newWords S, [0, 0, 0, 0], S.ceil, (S.starts.take k).map initS, []⟩
def initM (S : PScript) : PMach := partM S S.starts.length
def scrOk (S : PScript) : Bool := allTo (fun k => startOk (S.at k)) S.starts.length && (valsOk S && machMay (initM S))
def newP (S : PScript) : PMach × Int := bif scrOk S then (initM S, 0) else (noMach, 1200)
theorem newTo_lens {s s' : Nat → Sl} {y : Nat → Nat → Int} : ∀ {k : Nat}, (∀ g, g < k → (s g).n = (s' g).n) → newTo s y k = newTo s' y k
  | 0, _ => rfl
  | k + 1, h => by rw [newTo, newTo, newTo_lens fun g hg => h g (by omega), h k (by omega)]
theorem ScrIs.len {W : World} {B : ScrM} {S : PScript} (h : ScrIs W B S) : ∀ g, g < 4 → (B.v g).n = (S.lens g).n := fun g hg => by
  have := (h.vals g hg).1
  show _ = (S.lv g).length
  omega
theorem ScrIs.ok {W : World} {B : ScrM} {S : PScript} (h : ScrIs W B S) : newOk B.v S.vz = valsOk S := newTo_lens h.len
theorem ScrIs.values {W : World} {B : ScrM} {S : PScript} (h : ScrIs W B S) : Vals W B.v S.vz := fun g hg => by
  have := (h.vals g hg).2.2
  rw [Nat.mul_one] at this
  exact this
theorem newWords_lv {S : PScript} (h : valsOk S = true) {g : Nat} (hg : g < 4) : (newWords S).getD g [] = wordsOf (S.lv g) := by
  unfold newWords
  rw [h]
  have : g = 0 ∨ g = 1 ∨ g = 2 ∨ g = 3 := by omega
  rcases this with rfl | rfl | rfl | rfl <;> rfl
theorem newWords_no {S : PScript} (h : valsOk S = false) {g : Nat} (hg : g < 4) : (newWords S).getD g [] = [] := by
  unfold newWords
  rw [h]
  have : g = 0 ∨ g = 1 ∨ g = 2 ∨ g = 3 := by omega
  rcases this with rfl | rfl | rfl | rfl <;> rfl
theorem newWords_len (S : PScript) : (newWords S).length = 4 := by unfold newWords; cases valsOk S <;> rfl
/-- What the arena's New leaves. -/
theorem new_words {w W : World} {B : ScrM} {S : PScript} (h : ScrIs w B S) {t : Nat → Sl} {b c : Nat} (hny : Nilly t) (hf : Fresh b c W t (newZ S.vz) 4) (hy : newOk B.v S.vz = true → ∀ g, g < 4 → (t g).n = (B.v g).n) (hn : newOk B.v S.vz = false → t = nilS) :
    (∀ g, g < 4 → SlIs W 3 (t g) ((newWords S).getD g [])) ∧ (∀ g, g < 4 → SlOwn (fun k => b ≤ k ∧ k < c) W (t g)) ∧ (∀ g h, g < h → h < 4 → 0 < (t g).n → 0 < (t h).n → (t g).a ≠ (t h).a) := by
  rw [h.ok] at hy hn
  have ha := hf.arn
  obtain ⟨β, h1, h2⟩ := hf
  refine ⟨fun g hg => ?_, fun g hg h0 => ?_, fun g k hgk hk h0 h3 => ?_⟩
  · cases hv : valsOk S
    · rw [newWords_no hv hg, hn hv]
      exact slIs_none W 3
    · rw [newWords_lv hv hg]
      have hlen : (t g).n = (S.lv g).length := by rw [hy hv g hg, h.len g hg]; rfl
      have h4 : (S.lv g).length ≤ 4 := by
        have hh : newTo S.lens S.vz 4 = true := hv
        simp only [newTo, lvNew, Bool.and_eq_true, decide_eq_true_eq] at hh
        have : g = 0 ∨ g = 1 ∨ g = 2 ∨ g = 3 := by omega
        rcases this with rfl | rfl | rfl | rfl
        · exact hh.1.1.1.2.1
        · exact hh.1.1.2.1
        · exact hh.1.2.1
        · exact hh.2.1
      refine ⟨by unfold wordsOf; rw [List.length_map, List.length_range, hlen], ⟨by omega, (hny g).2, (hny g).1⟩, (ha g hg).congr fun i hi => ?_⟩
      unfold wordsOf
      rw [lz_map (by omega)]
      rfl
  · obtain ⟨e, k1, k2, l, hl, _⟩ := h1 g hg h0
    exact ⟨β g, e, ⟨k1, k2⟩, l, hl⟩
  · obtain ⟨e, _⟩ := h1 g (by omega) h0
    obtain ⟨e', _⟩ := h1 k hk h3
    rw [e, e']
    have := h2 g k hgk hk h0 h3
    intro e2
    simp only [Option.some.injEq, Addr.mk.injEq, and_true] at e2
    omega
theorem newP_no {S : PScript} (h : scrOk S = false) : newP S = (noMach, 1200) := by unfold newP; rw [h]; rfl
theorem newP_yes {S : PScript} (h : scrOk S = true) : newP S = (initM S, 0) := by unfold newP; rw [h]; rfl
theorem scrOk_start {S : PScript} {k : Nat} (hk : k < S.starts.length) (h : startOk (S.at k) = false) : scrOk S = false := by
  unfold scrOk
  rw [allTo_no k hk h, Bool.false_and]
end Go.Proofs.YtnjognmnbpcaaaaGreat
namespace Go.Proofs.YtnjognmnbpcaaaaGreat
open Go.RowKit
set_option linter.unusedSimpArgs false
set_option linter.unusedVariables false
theorem Tryz.infoSess : (Tryz.prog.info? 44).map (fun i => (i.zero, i.size, i.bytes)) = some (some (.agg zeroSL.toArray), 17, 184) := by kernel_rfl
set_option maxRecDepth 100000 in
theorem fill_ses (q : SesM) (x : PSess) : Instr.fill (fun i => some (i * 17, 17)) ((Array.range (1 * 17)).map (zeroSL.toArray[· % zeroSL.toArray.size]!)) [(0, .agg (sessOf q x).toArray)] = some (sessOf q x).toArray := by
  unfold sessOf sessL
  kernel_rfl
theorem stw_lit1 {w0 w : World} {L : List Itm} {op : Oper} {a : Act} {K : Act → World → Prop} {Q : Exit → Act → World → Prop} (HS : Hid (St w0 w L)) (x : Operand) (ho : op.op = .buildSlice 25 1 #[(0, x)]) {q : SesM} {y : PSess} (hx : ValOf a x (.agg (sessOf q y).toArray))
    (hw : ∀ W b, Hid (St w0 W (blkI b (sessOf q y) :: L)) → K (a.put op.dst (.slice (some ⟨b, 0, none⟩) 1 1)) W) : op.wp Tryz.prog a w K Q := by
  obtain ⟨i, hi, hz, hs, hy⟩ := info_parts Tryz.infoSess
  refine wp_buildSlice 25 44 1 _ ho (sessOf q y).toArray i (.agg zeroSL.toArray) Tryz.underlying25 hi hz (by rw [hs]; decide) (by rw [hs]; decide) ?_ (hw _ _ (HS.out.alloc (sessOf q y) 44))
  simp only [List.map_toArray, List.map_cons, List.map_nil, hx.eval]
  rw [hs]
  exact fill_ses q y
theorem st_lit1 {w0 w : World} {L : List Itm} {ops : Array Oper} {rest : List Oper} {op : Oper} {a : Act} {Q : Exit → Act → World → Prop} (HS : Hid (St w0 w L)) (x : Operand) (ho : op.op = .buildSlice 25 1 #[(0, x)]) (hgd : Region.wanted op (yielded ops a.tmps) = true) {q : SesM} {y : PSess} (hx : ValOf a x (.agg (sessOf q y).toArray))
    (hw : ∀ W b, Hid (St w0 W (blkI b (sessOf q y) :: L)) → wpList Tryz.prog ops Q rest (a.put op.dst (.slice (some ⟨b, 0, none⟩) 1 1)) W) : wpList Tryz.prog ops Q (op :: rest) a w :=
  BigFrame.wpList_want hgd fun _ hK => stw_lit1 HS x ho hx fun W b h => hK _ _ (hw W b h)
end Go.Proofs.YtnjognmnbpcaaaaGreat
namespace Go.Proofs.YtnjognmnbpcaaaaGreat
open Go.RowKit
set_option linter.unusedSimpArgs false
set_option linter.unusedVariables false
/-- A machine with an event more, if there is room. -/
def tellP (M : PMach) (i : Nat) (kind value : Int) : PMach :=
  if M.trace.length / 4 < 512 then { M with trace := M.trace ++ [lz (M.at i).num 0, lz (M.at i).num 1, kind, value] } else M
theorem tellP_at (M : PMach) (i : Nat) (kind value : Int) (k : Nat) : (tellP M i kind value).at k = M.at k := by unfold tellP; split <;> rfl
set_option maxRecDepth 100000 in
set_option maxHeartbeats 4000000 in
theorem rtell_any (w0 w : World) (L : List Itm) (i : Nat) (D : Nat → Prop) (A : MacM) (M : PMach) (k : Nat) (kind value : Int) (HS : Hid (St w0 w L)) (hi : L[i]? = some (machI D A M)) (hk : k < A.s.n) :
    Calls Tryz.prog 94 #[machA A M, .int .i64 k, .int .i64 kind, .int .i64 value] w fun e w' => ∃ (D' : Nat → Prop) (A' : MacM), e = .returned (machA A' (tellP M k kind value)) ∧ St w0 w' (L.set i (machI D' A' (tellP M k kind value))) ∧ A'.s = A.s := by
  unfold machA macA
  go_enter Tryz.func94, Tryz.ntmps94
  have HM := HS.out.get i hi
  by_cases hn : A.e.n < 512
  · have i1 : (A.e.n : Int) < 512 := by omega
    have i2 : (k : Int) < (A.s.n : Int) := by omega
    obtain ⟨bs, hbs, hDs, _⟩ := MachOwn.sblk HM hk
    replace hbs := hide hbs
    clear HM
    go_upto_region 2 with (first | ((with_reducible refine isList ?_); first | (refine st_box HS _ _ rfl rfl _ rfl ?_; clear HS; intro W bm HS) | (refine st_alloc HS _ rfl rfl zeroML zeroM ?_; clear HS; intro W br HS) | (refine st_load1 HS 0 rfl _ _ rfl _ rfl rfl (by decide +kernel) rfl ?_) | (refine st_load1 HS 1 rfl _ _ rfl _ rfl rfl (by decide +kernel) rfl ?_) | (refine st_loadA HS 0 rfl _ _ rfl rfl rfl (by decide +kernel) (by kernel_rfl) ?_) | (refine st_loadA HS 1 rfl _ _ rfl rfl rfl (by decide +kernel) (by kernel_rfl) ?_) | (refine st_storeA HS 0 rfl _ _ _ rfl rfl rfl _ rfl rfl (by kernel_rfl) rfl ?_; clear HS; intro W HS)))
    have HM : MachOwn D W A M := HS.out.get (i + 2) (by simpa using hi)
    have s0 : W.cell? ⟨bs, k * 17, none⟩ = some (.int .i64 (lz (M.at k).num 0)) := HM.is.scell hk 0 (by decide) rfl hbs.out
    have s1 : W.cell? ⟨bs, k * 17 + 1, none⟩ = some (.int .i64 (lz (M.at k).num 1)) := HM.is.scell hk 1 (by decide) rfl hbs.out
    have HB := HS.out.blk 1 rfl
    obtain ⟨_, rfl, ho5, hb5⟩ := HM.trace
    have HL := hide HM.is.trace.1
    replace hb5 := hide hb5
    replace hi := hide hi
    clear ho5 HM
    have hbs2 := hbs.out
    refine wp_region_mask [true, true, true, true, true, true, true, true, true, true, true, true, true, true, true, true, true, false, false, false, false] [false, false, false, false, false, false, false, false, false, false, false, false, false, false, false, false, false, true, true, true, true] [0, 0, 1, 1] (fun w' => Blk w' bm (machL A M) ∧ w'.cell? ⟨bs, k * 17, none⟩ = some (.int .i64 (lz (M.at k).num 0)) ∧ w'.cell? ⟨bs, k * 17 + 1, none⟩ = some (.int .i64 (lz (M.at k).num 1))) (by kernel_rfl) (by kernel_rfl) (by kernel_rfl) (by decide +kernel) ⟨HB.drew, s0, s1⟩ ?_
    intro kne
    simp only [pickAt]
    repeat (first | ((first | (refine wpQuiet_ld _ _ rfl ⟨bm, 9, none⟩ rfl rfl (by decide +kernel) (fun w hC => hC.1.cell 9 _ rfl) ?_) | (refine wpQuiet_ld _ _ rfl ⟨bm, 10, none⟩ rfl rfl (by decide +kernel) (fun w hC => hC.1.cell 10 _ rfl) ?_) | (refine wpQuiet_ld _ _ rfl ⟨bs, k * 17, none⟩ rfl rfl (by decide +kernel) (fun w hC => hC.2.1) ?_) | (refine wpQuiet_ld _ _ rfl ⟨bs, k * 17 + 1, none⟩ rfl rfl (by decide +kernel) (fun w hC => hC.2.2) ?_)); simp only [Act.put, List.setIfInBounds_toArray, List.set_cons_zero, List.set_cons_succ]) | go_big_quiet_step (fail))
    refine wpQuiet_nil ?_
    clear hbs2 kne HB s0 s1
    replace HS := hide HS.out.drew
    generalize W.drew = Wd at *
    obtain ⟨ie, hie, hz, hy, hx⟩ := info_parts Tryz.infoEvent
    refine wpRest_cons rfl rfl fun K hK => ?_
    go_big_op
    have HS1 := hide (HS.out.alloc [.int .i64 (lz (M.at k).num 0), .int .i64 (lz (M.at k).num 1), .int .i64 kind, .int .i64 value] 88)
    refine hK _ _ (fun _ => InC.mk ⟨HS1.out.blk 2 rfl, MachIs.scell (MachOwn.is (HS1.out.get (i + 3) (x := machI D A M) (by simpa using hi.out))) hk 0 (by decide) rfl hbs.out, MachIs.scell (MachOwn.is (HS1.out.get (i + 3) (x := machI D A M) (by simpa using hi.out))) hk 1 (by decide) rfl hbs.out⟩) ?_
    clear hK K HS
    generalize Wd.heap.size = be at *
    refine wpRest_cons rfl rfl fun K hK => ?_
    refine stw_event HS1 0 (i + 3) (x := [lz (M.at k).num 0, lz (M.at k).num 1, kind, value]) rfl rfl (by simpa using hi.out) hn _ _ _ rfl ie _ Tryz.underlying26 hie hz hy hx rfl rfl rfl ?_
    clear HS1
    intro W2 D' g cap HS
    have e : tellP M k kind value = { M with trace := M.trace ++ [lz (M.at k).num 0, lz (M.at k).num 1, kind, value] } := by
      unfold tellP
      rw [if_pos (by rw [HL.out]; omega)]
    rw [← e] at HS
    have hM2 : MachOwn D' W2 (A.setE ⟨some ⟨g, 0, none⟩, A.e.n + 1, cap⟩) { M with trace := M.trace ++ [lz (M.at k).num 0, lz (M.at k).num 1, kind, value] } := by
      rw [← e]
      have hl : i < L.length := (List.getElem?_eq_some_iff.1 hi.out).1
      exact HS.out.get (i + 3) (x := machI D' (A.setE ⟨some ⟨g, 0, none⟩, A.e.n + 1, cap⟩) (tellP M k kind value)) (by simp [List.getElem?_set, hl])
    refine hK _ _ (fun _ => InC.mk ⟨HS.out.blk 2 rfl, hM2.is.scell hk 0 (by decide) rfl hbs.out, hM2.is.scell hk 1 (by decide) rfl hbs.out⟩) ?_
    clear hK K hM2
    simp only [Act.put, List.setIfInBounds_toArray, List.set_cons_zero, List.set_cons_succ]
    refine wpRest_cons rfl rfl fun K hK => ?_
    go_big_op
    refine hK _ _ (fun h => by cases h) ?_
    clear hK K
    refine wpRest_cons rfl rfl fun K hK => ?_
    refine stw_store1 HS 2 rfl _ _ _ rfl _ rfl rfl (by decide +kernel) rfl rfl ?_
    clear HS
    intro W3 HS
    refine hK _ _ (fun h => by cases h) (wpRest_nil ?_)
    clear hK K
    simp only [Act.put, List.setIfInBounds_toArray, List.set_cons_zero, List.set_cons_succ]
    refine NoPanic.normal ?_
    go_wp2_with (first | ((with_reducible refine isList ?_); first | (refine st_loadA HS 2 rfl _ _ rfl rfl rfl (by decide +kernel) (by kernel_rfl) ?_) | (refine st_storeA HS 1 rfl _ _ _ rfl rfl rfl _ rfl rfl (by kernel_rfl) rfl ?_; clear HS; intro W HS)))
    refine bodyPost_ret (ret_mach Tryz.results94 (HS.out.blk 1 rfl) rfl rfl) rfl ⟨D', A.setE ⟨some ⟨g, 0, none⟩, A.e.n + 1, cap⟩, ?_, HS.out.tail.tail.tail, rfl⟩
    rw [e]
    rfl
  · have i1 : ¬ (A.e.n : Int) < 512 := by omega
    go_wp2_with (first | ((with_reducible refine isList ?_); first | (refine st_box HS _ _ rfl rfl _ rfl ?_; clear HS; intro W b HS) | (refine st_alloc HS _ rfl rfl zeroML zeroM ?_; clear HS; intro W b HS) | (refine st_load1 HS 0 rfl _ _ rfl _ rfl rfl (by decide +kernel) rfl ?_) | (refine st_load1 HS 1 rfl _ _ rfl _ rfl rfl (by decide +kernel) rfl ?_) | (refine st_loadA HS 0 rfl _ _ rfl rfl rfl (by decide +kernel) (by kernel_rfl) ?_) | (refine st_loadA HS 1 rfl _ _ rfl rfl rfl (by decide +kernel) (by kernel_rfl) ?_) | (refine st_storeA HS 0 rfl _ _ _ rfl rfl rfl _ rfl rfl (by kernel_rfl) rfl ?_; clear HS; intro W HS)))
    have e : tellP M k kind value = M := by
      unfold tellP
      rw [if_neg (by rw [(HM : MachOwn D w A M).is.trace.1]; omega)]
    rw [e]
    refine bodyPost_ret (ret_mach Tryz.results94 (HS.out.blk 0 rfl) rfl rfl) rfl ⟨D, A, rfl, ?_⟩
    rw [set_self hi]
    exact ⟨HS.out.tail.tail, rfl⟩
end Go.Proofs.YtnjognmnbpcaaaaGreat
namespace Go.Proofs.YtnjognmnbpcaaaaGreat
open Go.RowKit
set_option linter.unusedSimpArgs false
set_option linter.unusedVariables false
/-- A number of a session; a list of a session laid by; a level's words. -/
def PMach.doN (M : PMach) (k j : Nat) (v : Int) : PMach := M.setS k ((M.at k).setN j v)
def PMach.doL (M : PMach) (k j : Nat) : PMach := M.setS k ((M.at k).setL j [])
/-- The first n words, those free that were locked by this session. -/
def freeTo (id : Int) (l : List Int) : Nat → List Int
  | 0 => l
  | n + 1 => if lz (freeTo id l n) (n * 3 + 2) = wrap64 (id + 1) then (freeTo id l n).set (n * 3 + 2) 0 else freeTo id l n
def looseW (id : Int) (M : PMach) : Nat → PMach
  | 0 => M
  | g + 1 => (looseW id M g).setLv g (freeTo id ((looseW id M g).lv g) (((looseW id M g).lv g).length / 3))
def looseP (M : PMach) (k : Nat) : PMach := ((((looseW (lz (M.at k).num 0) M 4).doL k 1).doL k 2).doN k 9 0).doN k 10 0
theorem PMach.setLv_self (M : PMach) (g : Nat) : M.setLv g (M.lv g) = M := by
  unfold PMach.setLv PMach.lv
  have : M.words.set g (M.words.getD g []) = M.words := by
    apply List.ext_getElem?
    intro i
    rw [List.getElem?_set]
    by_cases h : g = i
    · subst h
      rw [if_pos rfl]
      split
      · rename_i hl; simp [List.getD, hl]
      · rename_i hl; simp at hl; simp [hl]
    · rw [if_neg h]
  rw [this]
theorem PMach.setLv_twice (M : PMach) (g : Nat) (l m : List Int) : (M.setLv g l).setLv g m = M.setLv g m := by
  unfold PMach.setLv
  simp
theorem PMach.lv_setLv {M : PMach} {g : Nat} (h : g < M.words.length) (l : List Int) : (M.setLv g l).lv g = l := by
  show (M.words.set g l).getD g [] = l
  exact getD_set_eq _ _ h
theorem machL_w (A : MacM) (M : PMach) {g : Nat} (h : g < 4) : (machL A M)[g]? = some (.slice (A.w g).a (A.w g).n (A.w g).c) := by
  have : g = 0 ∨ g = 1 ∨ g = 2 ∨ g = 3 := by omega
  rcases this with rfl | rfl | rfl | rfl <;> rfl
/-- A number of a word. -/
theorem MachIs.wcell {W : World} {A : MacM} {M : PMach} (h : MachIs W A M) {g j c : Nat} (hg : g < 4) (hj : j < (A.w g).n) (hc : c < 3) {b off : Nat} (hb : (A.w g).a = some ⟨b, off, none⟩) : W.cell? ⟨b, off + (j * 3 + c), none⟩ = some (.int .i64 (lz (M.lv g) (j * 3 + c))) := by
  obtain ⟨b2, off2, e, _, hcc⟩ := (h.words g hg).2.2 (j * 3 + c) (by omega)
  rw [hb] at e; cases e
  exact hcc
end Go.Proofs.YtnjognmnbpcaaaaGreat
namespace Go.Proofs.YtnjognmnbpcaaaaGreat
open Go.RowKit
set_option linter.unusedSimpArgs false
set_option linter.unusedVariables false
set_option maxRecDepth 100000 in
set_option maxHeartbeats 4000000 in
theorem rcopySession_any (q : SesM) (x : PSess) (w : World) (h : SessIs w q x) :
    Calls Tryz.prog 49 #[.agg (sessOf q x).toArray] w fun e w' => ∃ q', e = .returned (.agg (sessOf q' x).toArray) ∧ SesOwn (fun k => w.heap.size ≤ k ∧ k < w'.heap.size) w' q' x ∧ Below w.heap.size w w' := by
  have HP := hide h.2.1
  have HR := hide h.2.2.1
  have HT := hide h.2.2.2
  have HN := hide h.1
  have HS := hide (St.refl w)
  clear h
  unfold sessOf sessL
  go_enter Tryz.func49, Tryz.ntmps49
  go_upto_region 2 with (first | ((with_reducible refine isList ?_); first | (refine st_box HS _ _ rfl rfl _ rfl ?_; clear HS; intro W b HS) | (refine st_alloc HS _ rfl rfl zeroSL zeroS ?_; clear HS; intro W b HS) | (refine st_lit0 HS _ 47 4 rfl rfl Tryz.underlying40 (by kernel_rfl) ?_; clear HS; intro W b HS) | (refine st_load1 HS 2 rfl _ _ rfl _ rfl rfl (by decide +kernel) rfl ?_) | (refine st_store1 HS 2 rfl _ _ _ rfl _ rfl rfl rfl (by decide +kernel) rfl rfl ?_; clear HS; intro W HS) | (refine st_copy HS 0 rfl (HP.out.below HS.out.below) rfl _ _ _ rfl _ _ Tryz.underlying40 Tryz.infoInst rfl (by decide) rfl rfl rfl ?_; clear HS; intro W Dp sp hp HS)))
  go_upto_region 3 with (first | ((with_reducible refine isList ?_); first | (refine st_lit0 HS _ 82 3 rfl rfl Tryz.underlying41 (by kernel_rfl) ?_; clear HS; intro W b HS) | (refine st_load1 HS 3 rfl _ _ rfl _ rfl rfl (by decide +kernel) rfl ?_) | (refine st_store1 HS 3 rfl _ _ _ rfl _ rfl rfl rfl (by decide +kernel) rfl rfl ?_; clear HS; intro W HS) | (refine st_copy HS 0 rfl (HR.out.below HS.out.below) rfl _ _ _ rfl _ _ Tryz.underlying41 Tryz.infoRead rfl (by decide) rfl rfl rfl ?_; clear HS; intro W Dr sr hr HS)))
  go_wp2_with (first | ((with_reducible refine isList ?_); first | (refine st_lit0 HS _ 85 3 rfl rfl Tryz.underlying42 (by kernel_rfl) ?_; clear HS; intro W b HS) | (refine st_load1 HS 4 rfl _ _ rfl _ rfl rfl (by decide +kernel) rfl ?_) | (refine st_store1 HS 4 rfl _ _ _ rfl _ rfl rfl rfl (by decide +kernel) rfl rfl ?_; clear HS; intro W HS) | (refine st_loadA HS 4 rfl _ _ rfl rfl rfl (by decide +kernel) (by kernel_rfl) ?_) | (refine st_storeA HS 3 rfl _ _ _ rfl rfl rfl _ rfl rfl (by kernel_rfl) rfl ?_; clear HS; intro W HS) | (refine st_copy HS 0 rfl (HT.out.below HS.out.below) rfl _ _ _ rfl _ _ Tryz.underlying42 Tryz.infoWrite rfl (by decide) rfl rfl rfl ?_; clear HS; intro W Dt st ht HS)))
  refine bodyPost_ret (ret_ses Tryz.results49 (HS.out.blk 3 rfl) rfl rfl) rfl ⟨⟨sp, sr, st⟩, rfl, ?_, HS.out.below⟩
  obtain ⟨t1, t2, _⟩ := HS.out.get 0 (x := slI Dt 85 3 st x.writes) rfl
  obtain ⟨r1, r2, _⟩ := HS.out.get 1 (x := slI Dr 82 3 sr x.reads) rfl
  obtain ⟨p1, p2, _⟩ := HS.out.get 2 (x := slI Dp 47 4 sp x.prog) rfl
  have k0 := (HS.out.here 0 (slI Dt 85 3 st x.writes) rfl).2.2
  have k1 := (HS.out.here 1 (slI Dr 82 3 sr x.reads) rfl).2.2
  have k2 := (HS.out.here 2 (slI Dp 47 4 sp x.prog) rfl).2.2
  have a01 := HS.out.apart 0 1 (slI Dt 85 3 st x.writes) (slI Dr 82 3 sr x.reads) rfl rfl (by decide)
  have a02 := HS.out.apart 0 2 (slI Dt 85 3 st x.writes) (slI Dp 47 4 sp x.prog) rfl rfl (by decide)
  have a12 := HS.out.apart 1 2 (slI Dr 82 3 sr x.reads) (slI Dp 47 4 sp x.prog) rfl rfl (by decide)
  refine ⟨⟨HN.out, p1, r1, t1⟩, fun j hj => ?_, fun i j hij hj h0 h1 => ?_⟩
  · have : j = 0 ∨ j = 1 ∨ j = 2 := by omega
    rcases this with rfl | rfl | rfl
    · exact p2.mono k2
    · exact r2.mono k1
    · exact t2.mono k0
  · have : (i = 0 ∧ j = 1) ∨ (i = 0 ∧ j = 2) ∨ (i = 1 ∧ j = 2) := by omega
    rcases this with ⟨rfl, rfl⟩ | ⟨rfl, rfl⟩ | ⟨rfl, rfl⟩
    · exact p2.ne r2 (fun k hk hk' => a12 k hk' hk) h0 h1
    · exact p2.ne t2 (fun k hk hk' => a02 k hk' hk) h0 h1
    · exact r2.ne t2 (fun k hk hk' => a01 k hk' hk) h0 h1
end Go.Proofs.YtnjognmnbpcaaaaGreat
namespace Go.Proofs.YtnjognmnbpcaaaaGreat
open Go.RowKit
set_option linter.unusedSimpArgs false
set_option linter.unusedVariables false
set_option maxRecDepth 100000 in
set_option maxHeartbeats 4000000 in
theorem rcopyMach_any (A : MacM) (M : PMach) (w : World) (h : MachIs w A M) :
    Calls Tryz.prog 24 #[machA A M] w fun e w' => ∃ A', e = .returned (machA A' M) ∧ MachOwn (fun k => w.heap.size ≤ k ∧ k < w'.heap.size) w' A' M ∧ Below w.heap.size w w' := by
  have HM := hide h
  have HS := hide (St.refl w)
  have HCA := hide fun (W : World) (hb : Below w.heap.size w W) => rcopyArena_any A.w M.wz W (h.below hb).fit (h.below hb).arn
  have HCS := hide fun (k : Nat) (hk : k < A.s.n) (W : World) (hb : Below w.heap.size w W) => rcopySession_any (A.q k) (M.at k) W ((h.below hb).sess.2.2.2 k hk)
  have hbd := hide h.sess.2.1.1
  have hXL := hide h.sess.1
  have hn4 : A.s.n ≤ 1152921504606846976 := by have := h.sess.2.1.1; omega
  clear h
  unfold machA macA arenaA at *
  go_enter Tryz.func24, Tryz.ntmps24
  go_upto_region 1 with (first | ((with_reducible refine isList ?_); first | (refine st_box HS _ _ rfl rfl _ rfl ?_; clear HS; intro W bm HS) | (refine st_alloc HS _ rfl rfl zeroML zeroM ?_; clear HS; intro W br HS)))
  go_upto_region 2 with (first | ((with_reducible refine isList ?_); first | (refine st_alloc HS _ rfl rfl zeroML zeroM ?_; clear HS; intro W bo HS) | (refine st_loadA HS 1 rfl _ _ rfl rfl rfl (by decide +kernel) (by kernel_rfl) ?_) | (refine st_loadA HS 2 rfl _ _ rfl rfl rfl (by decide +kernel) (by kernel_rfl) ?_) | (refine st_storeA HS 0 rfl _ _ _ rfl rfl rfl _ rfl rfl (by kernel_rfl) rfl ?_; clear HS; intro W HS)))
  replace HS : Hid (St w W [blkI bo (machL A M), blkI br zeroML, blkI bm (machL A M)]) := HS
  go_wp2_with (refine st_loadR HS 2 rfl _ _ rfl 0 rfl rfl (by decide +kernel) (arenaL A.w) _ (by kernel_rfl) rfl ?_)
  refine (HCA.out _ HS.out.below).mono ?_
  rintro e W1 ⟨t, rfl, hn, hny, hf, hb⟩
  obtain ⟨hk1, hk2, hk3⟩ := fresh_words (M := M) hf hn hny (HM.out.below HS.out.below).words
  have HS1 := hide (HS.out.push hb (partI (fun k => W.heap.size ≤ k ∧ k < W1.heap.size) (wordM t) { words := M.words, clocks := M.clocks, ceil := M.ceil, sess := [], trace := [] }) (partI_loc _ _ _) (partOwn_words HM.out.four HM.out.clocks rfl rfl hk1 hk2 hk3) fun k hk => hk)
  obtain ⟨D0, hD0⟩ : ∃ D0 : Nat → Prop, D0 = fun k => W.heap.size ≤ k ∧ k < W1.heap.size := ⟨_, rfl⟩
  rw [← hD0] at HS1
  clear hD0 HS hk1 hk2 hk3 hn hny hf hb HCA
  go_wp2_with (first | (refine st_storeR HS1 1 rfl _ _ _ rfl 0 rfl rfl (arenaL t) rfl (by show 4 ≤ 11; omega) (by kernel_rfl) rfl ?_; clear HS1; intro W HS) | (refine st_store1 HS 1 rfl _ _ _ rfl _ rfl rfl rfl (by decide +kernel) rfl rfl ?_; clear HS; intro W HS))
  replace HS : Hid (St w W [partI D0 (wordM t) { words := M.words, clocks := M.clocks, ceil := M.ceil, sess := [], trace := [] }, blkI bo (macL t (lz M.clocks) M.ceil (.slice none 0 0) (.slice A.e.a A.e.n A.e.c)), blkI br zeroML, blkI bm (machL A M)]) := HS
  go_loopw [4] (fun i wr => ∃ (k : Nat) (D : Nat → Prop) (B : MacM), k ≤ A.s.n ∧ i = .int .i64 k ∧ Hid (B.s.n = k ∧ B.w = t ∧ B.e = noSl) ∧ Hid (St w wr [partI D B { words := M.words, clocks := M.clocks, ceil := M.ceil, sess := M.sess.take k, trace := [] }, blkI bo (macL t (lz M.clocks) M.ceil (.slice B.s.a B.s.n B.s.c) (.slice A.e.a A.e.n A.e.c)), blkI br zeroML, blkI bm (machL A M)])) (fun i _ => A.s.n - (intOf i).toNat)
  case atStart => exact ⟨0, D0, wordM t, Nat.zero_le _, rfl, ⟨rfl, rfl, rfl⟩, HS⟩
  case round =>
    clear HS
    obtain ⟨k, D, B, hk, rfl, HB, HS⟩ := hrel
    by_cases hlt : k < A.s.n
    · have i1 : (k : Int) < (A.s.n : Int) := by omega
      obtain ⟨bs, off, hbs, hbl, hr⟩ := (HM.out.below HS.out.below).sess.range hlt
      have HRG : Hid (∀ W, Below w.heap.size w W → W.rangeAt bs (off + k * 17) (sessOf (A.q k) (M.at k))) := fun W hW => by
        obtain ⟨bs', off', e', _, hr'⟩ := (HM.out.below hW).sess.range hlt
        rw [hbs] at e'; cases e'
        exact hr'
      have B1 := HS.out.blk 1 rfl
      have B3 := HS.out.blk 3 rfl
      replace hbs := hide hbs
      go_upto_region 7 with (first | ((with_reducible refine isList ?_); first | (refine st_load1 HS 3 rfl _ _ rfl _ rfl rfl (by decide +kernel) rfl ?_)))
      replace hbs := hbs.out
      refine wp_region_mask [true, true, true, true, true, true, true, false, false, false, false, false] [false, false, false, false, false, false, false, true, true, true, true, true] [0, 0, 0, 1, 1] (fun w' => Blk w' bo (macL t (lz M.clocks) M.ceil (.slice B.s.a B.s.n B.s.c) (.slice A.e.a A.e.n A.e.c)) ∧ Blk w' bm (machL A M) ∧ w'.rangeAt bs (off + k * 17) (sessOf (A.q k) (M.at k))) (by kernel_rfl) (by kernel_rfl) (by kernel_rfl) (by decide +kernel) ⟨B1.drew, B3.drew, hr⟩ ?_
      intro kne
      simp only [pickAt]
      repeat (first | ((first | (refine wpQuiet_ld _ _ rfl ⟨bo, 9, none⟩ rfl rfl (by decide +kernel) (fun w hC => hC.1.cell 9 _ rfl) ?_) | (refine wpQuiet_ld _ _ rfl ⟨bm, 9, none⟩ rfl rfl (by decide +kernel) (fun w hC => hC.2.1.cell 9 _ rfl) ?_) | (refine wpQuiet_la _ _ rfl bs (off + k * 17) rfl rfl (by decide +kernel) (sessOf (A.q k) (M.at k)) (by kernel_rfl) (fun w hC => hC.2.2) ?_)); simp only [Act.put, List.setIfInBounds_toArray, List.set_cons_zero, List.set_cons_succ]) | go_big_quiet_step (fail))
      refine wpQuiet_nil ?_
      clear kne hbs hr B1 B3
      replace HS := hide HS.out.drew
      generalize wr.drew = Wd at *
      refine wpRest_cons rfl rfl fun K hK => ?_
      go_big_op
      refine (HCS.out k hlt _ HS.out.below).mono ?_
      rintro e W2 ⟨q', rfl, hq, hb⟩
      have HS2 := hide (HS.out.push hb (sesI (fun k => Wd.heap.size ≤ k ∧ k < W2.heap.size) q' (M.at k)) (sesI_loc _ _ _) hq fun k hk => hk)
      obtain ⟨D2, hD2⟩ : ∃ D2 : Nat → Prop, D2 = fun k => Wd.heap.size ≤ k ∧ k < W2.heap.size := ⟨_, rfl⟩
      rw [← hD2] at HS2
      refine hK _ _ (fun _ => InC.mk ⟨HS2.out.blk 2 rfl, HS2.out.blk 4 rfl, HRG.out _ HS2.out.below⟩) ?_
      clear hK K HS hq hb hD2
      refine wpRest_cons rfl rfl fun K hK => ?_
      refine stw_lit1 HS2 (.tmp 25) rfl (q := q') (y := M.at k) rfl ?_
      clear HS2
      intro W3 be HS
      refine hK _ _ (fun _ => InC.mk ⟨HS.out.blk 3 rfl, HS.out.blk 5 rfl, HRG.out _ HS.out.below⟩) ?_
      clear hK K
      simp only [Act.put, List.setIfInBounds_toArray, List.set_cons_zero, List.set_cons_succ]
      refine wpRest_cons rfl rfl fun K hK => ?_
      refine stw_sess HS 0 2 1 (q := q') (x := M.at k) rfl rfl rfl (by decide) (by have := hbd.out; have := HB.out.1; omega) (.tmp 19) (.tmp 26) 25 rfl _ Tryz.underlying25 Tryz.infoSess rfl rfl rfl ?_
      clear HS
      intro W4 D' g cap HS
      refine hK _ _ (fun _ => InC.mk ⟨HS.out.blk 3 rfl, HS.out.blk 5 rfl, HRG.out _ HS.out.below⟩) ?_
      clear hK K
      simp only [Act.put, List.setIfInBounds_toArray, List.set_cons_zero, List.set_cons_succ]
      refine wpRest_cons rfl rfl fun K hK => ?_
      go_big_op
      refine hK _ _ (fun h => by cases h) ?_
      clear hK K
      refine wpRest_cons rfl rfl fun K hK => ?_
      refine stw_store1 HS 3 rfl _ _ _ rfl _ rfl rfl (by decide +kernel) rfl rfl ?_
      clear HS
      intro W5 HS
      refine hK _ _ (fun h => by cases h) (wpRest_nil ?_)
      clear hK K
      simp only [Act.put, List.setIfInBounds_toArray, List.set_cons_zero, List.set_cons_succ]
      refine NoPanic.normal ?_
      have hT : M.sess.take k ++ [M.at k] = M.sess.take (k + 1) := by
        have : k < M.sess.length := by rw [hXL.out]; exact hlt
        rw [List.take_add_one, List.getElem?_eq_getElem this]
        simp [PMach.at, List.getD, this]
      replace HS : Hid (St w W5 [partI D' (B.push ⟨some ⟨g, 0, none⟩, B.s.n + 1, cap⟩ q') { words := M.words, clocks := M.clocks, ceil := M.ceil, sess := M.sess.take k ++ [M.at k], trace := [] }, blkI bo (macL t (lz M.clocks) M.ceil (.slice (some ⟨g, 0, none⟩) (B.s.n + 1) cap) (.slice A.e.a A.e.n A.e.c)), blkI br zeroML, blkI bm (machL A M)]) := hide HS.out.tail.tail
      rw [hT] at HS
      go_wp2
      go_roundw
      case rel =>
       first
        | exact ⟨k + 1, D', B.push ⟨some ⟨g, 0, none⟩, B.s.n + 1, cap⟩ q', by omega, by go_num, ⟨by show B.s.n + 1 = _; rw [HB.out.1], HB.out.2.1, HB.out.2.2⟩, HS⟩
        | (repeat apply Exists.intro
           exact ⟨⟨k + 1, D', B.push ⟨some ⟨g, 0, none⟩, B.s.n + 1, cap⟩ q', by omega, by go_num, ⟨by show B.s.n + 1 = _; rw [HB.out.1], HB.out.2.1, HB.out.2.2⟩, HS⟩, rfl⟩)
      case measure => simp [intOf]; omega
    · obtain rfl : k = A.s.n := by omega
      have hT : M.sess.take A.s.n = M.sess := by rw [← hXL.out, List.take_length]
      rw [hT] at HS
      clear HCS
      have HE := hide HM.out.trace
      go_upto_region 9 with (first | ((with_reducible refine isList ?_); first | (refine st_load1 HS 3 rfl _ _ rfl _ rfl rfl (by decide +kernel) rfl ?_) | (refine st_load1 HS 4 rfl _ _ rfl _ rfl rfl (by decide +kernel) rfl ?_) | (refine st_store1 HS 2 rfl _ _ _ rfl _ rfl rfl rfl (by decide +kernel) rfl rfl ?_; clear HS; intro W HS) | (refine st_lit0 HS _ 88 4 rfl rfl Tryz.underlying26 (by kernel_rfl) ?_; clear HS; intro W b HS) | (refine st_copy HS 0 rfl (HE.out.below HS.out.below) rfl _ _ _ rfl _ _ Tryz.underlying26 Tryz.infoEvent rfl (by decide) rfl rfl rfl ?_; clear HS; intro W De se he HS)))
      go_wp2_with (first | ((with_reducible refine isList ?_); first | (refine st_loadA HS 2 rfl _ _ rfl rfl rfl (by decide +kernel) (by kernel_rfl) ?_) | (refine st_storeA HS 3 rfl _ _ _ rfl rfl rfl _ rfl rfl (by kernel_rfl) rfl ?_; clear HS; intro W HS)))
      refine bodyPost_ret (ret_mach Tryz.results24 (HS.out.blk 3 rfl) rfl rfl) rfl ⟨B.setE se, ?_, ?_, HS.out.below⟩
      · obtain ⟨h1, h2, h3⟩ := HB.out
        subst h2
        rfl
      · have h1 := HS.out.get 1 (x := partI D B { words := M.words, clocks := M.clocks, ceil := M.ceil, sess := M.sess, trace := [] }) rfl
        have h2 := HS.out.get 0 (x := slI De 88 4 se M.trace) rfl
        have k0 := (HS.out.here 0 (slI De 88 4 se M.trace) rfl).2.2
        have k1 := (HS.out.here 1 (partI D B { words := M.words, clocks := M.clocks, ceil := M.ceil, sess := M.sess, trace := [] }) rfl).2.2
        have a10 := HS.out.apart 1 0 (partI D B { words := M.words, clocks := M.clocks, ceil := M.ceil, sess := M.sess, trace := [] }) (slI De 88 4 se M.trace) rfl rfl (by decide)
        exact ((PartOwn.own h1).withE a10 h2).mono fun k hk => hk.elim (k1 k) (k0 k)
end Go.Proofs.YtnjognmnbpcaaaaGreat
namespace Go.Proofs.YtnjognmnbpcaaaaGreat
open Go.RowKit
set_option linter.unusedSimpArgs false
set_option linter.unusedVariables false
set_option maxRecDepth 100000 in
set_option maxHeartbeats 4000000 in
theorem rloose_any (A : MacM) (M : PMach) (k : Nat) (w : World) (h : MachIs w A M) (hk : k < A.s.n) :
    Calls Tryz.prog 114 #[machA A M, .int .i64 k] w fun e w' => ∃ A', e = .returned (machA A' (looseP M k)) ∧ MachOwn (fun k => w.heap.size ≤ k ∧ k < w'.heap.size) w' A' (looseP M k) ∧ A'.s.n = A.s.n ∧ Below w.heap.size w w' := by
  have hCopy := hide fun (W : World) (hb : Below w.heap.size w W) => rcopyMach_any A M W (h.below hb)
  have hXL := hide h.sess.1
  have i0 : (k : Int) < (A.s.n : Int) := by omega
  obtain ⟨V0, hV0⟩ : ∃ V0, V0 = machA A M := ⟨_, rfl⟩
  rw [← hV0]
  have HV : Hid (V0.cells = (machL A M).toArray) := by rw [hV0]; rfl
  clear hV0
  have HM := hide h
  have HS := hide (St.refl w)
  clear h
  go_enter Tryz.func114, Tryz.ntmps114
  go_upto_region 1 with (first | ((with_reducible refine isList ?_); first | (refine st_box HS _ _ rfl rfl (machL A M) HV.out ?_; clear HS; intro W bm HS) | (refine st_alloc HS _ rfl rfl zeroML zeroM ?_; clear HS; intro W br HS)))
  go_wp2_with (first | ((with_reducible refine isList ?_); first | (refine st_loadA HS 1 rfl _ _ rfl rfl rfl (by decide +kernel) (by kernel_rfl) ?_)))
  refine (hCopy.out _ HS.out.below).mono ?_
  rintro e W1 ⟨A1, rfl, hO, hb⟩
  have HS1 := hide (HS.out.push hb (machI (fun k => _) A1 M) (machI_loc _ _ _) hO fun k hk => hk)
  generalize (fun k => _) = D1 at HS1
  have hn1 : A1.s.n = A.s.n := by have := hO.is.sess.1; have := hXL.out; omega
  have hk1 : k < A1.s.n := by omega
  clear HS hb hO hCopy
  obtain ⟨bs, off, hbs, hbl, hr⟩ := (HM.out.below HS1.out.below).sess.cell hk (j := 0) (by decide)
  replace hbs := hide hbs
  clear hbl hr
  go_upto_region 2 with (first | ((with_reducible refine isList ?_); first | (refine st_alloc HS1 _ rfl rfl zeroML zeroM ?_; clear HS1; intro W bo HS) | (refine st_storeA HS 0 rfl _ _ _ rfl rfl rfl _ rfl rfl (by kernel_rfl) rfl ?_; clear HS; intro W HS)))
  replace hbs := hbs.out
  go_upto_region 3 with (first | (refine st_load1 HS 3 rfl _ _ rfl _ rfl rfl (by decide +kernel) rfl ?_) | (refine st_loadS (HM.out.below HS.out.below) hk hbs 0 (by decide) rfl _ _ rfl _ rfl rfl rfl (by decide +kernel) ?_))
  clear hbs
  obtain ⟨id, hid⟩ : ∃ id, id = lz (M.at k).num 0 := ⟨_, rfl⟩
  replace HS : Hid (St w W [blkI bo (machL A1 M), machI D1 A1 (looseW id M 0), blkI br zeroML, blkI bm (machL A M)]) := HS
  rw [← hid]
  replace hid := hide hid
  go_wp2
  go_loopw [7] (fun i wr => ∃ g : Nat, g ≤ 4 ∧ i = .int .i64 g ∧ Hid (St w wr [blkI bo (machL A1 M), machI D1 A1 (looseW id M g), blkI br zeroML, blkI bm (machL A M)])) (fun i _ => 4 - (intOf i).toNat)
  case atStart => exact ⟨0, Nat.zero_le _, rfl, HS⟩
  case round =>
    clear HS
    obtain ⟨g, hg, rfl, HS⟩ := hrel
    by_cases hlt : g < 4
    · have i1 : (g : Int) < 4 := by omega
      replace HS : Hid (St w wr [blkI bo (machL A1 M), machI D1 A1 ((looseW id M g).setLv g (freeTo id ((looseW id M g).lv g) 0)), blkI br zeroML, blkI bm (machL A M)]) := by
        unfold freeTo; rw [PMach.setLv_self]; exact HS
      have hw4 : Hid ((looseW id M g).words.length = 4) := by
        have hM : MachOwn D1 wr A1 _ := HS.out.get 1 rfl
        show (looseW id M g).words.length = 4
        have := hM.is.four
        rw [show ((looseW id M g).setLv g (freeTo id ((looseW id M g).lv g) 0)).words.length = ((looseW id M g).words.set g _).length from rfl, List.length_set] at this
        exact this
      have hwl : Hid (((looseW id M g).lv g).length = (A1.w g).n * 3) := by
        have hM : MachOwn D1 wr A1 _ := HS.out.get 1 rfl
        have := (hM.is.words g hlt).1
        rw [PMach.lv_setLv (by rw [hw4.out]; exact hlt)] at this
        exact this
      have hn5 : (A1.w g).n ≤ 1152921504606846976 := by
        have hM : MachOwn D1 wr A1 _ := HS.out.get 1 rfl
        have := (hM.is.words g hlt).2.1.1
        omega
      go_wp2
      go_loopw [8] (fun j wr2 => ∃ m : Nat, m ≤ (A1.w g).n ∧ j = .int .i64 m ∧ Hid (St w wr2 [blkI bo (machL A1 M), machI D1 A1 ((looseW id M g).setLv g (freeTo id ((looseW id M g).lv g) m)), blkI br zeroML, blkI bm (machL A M)])) (fun j _ => (A1.w g).n - (intOf j).toNat)
      case atStart => exact ⟨0, Nat.zero_le _, rfl, HS⟩
      case round =>
        clear HS
        obtain ⟨m, hm, rfl, HS⟩ := hrel
        by_cases hmn : m < (A1.w g).n
        · have i2 : (m : Int) < ((A1.w g).n : Int) := by omega
          have hM : MachOwn D1 _ A1 _ := HS.out.get 1 rfl
          obtain ⟨b, hb, _⟩ := hM.wblk hlt (by omega)
          have hc := hM.is.wcell hlt hmn (c := 2) (by decide) hb
          rw [PMach.lv_setLv (by rw [hw4.out]; exact hlt), Nat.zero_add] at hc
          obtain ⟨q, hq⟩ : ∃ q, q = lz (freeTo id ((looseW id M g).lv g) m) (m * 3 + 2) := ⟨_, rfl⟩
          rw [← hq] at hc
          clear hM
          replace hc := hide hc
          replace hb := hide hb
          go_upto_region 9 with (refine st_load1 HS 0 rfl _ _ rfl g rfl rfl (by decide +kernel) (machL_w A1 M hlt) ?_)
          replace hb := hb.out
          replace hq := hide hq
          by_cases hL : q = wrap64 (id + 1)
          · have hL2 : (q == wrap64 (id + 1)) = true := by rw [hL]; exact beq_self_eq_true _
            have hF : freeTo id ((looseW id M g).lv g) (m + 1) = (freeTo id ((looseW id M g).lv g) m).set (m * 3 + 2) 0 := by
              show (if _ then _ else _) = _
              rw [if_pos (by rw [← hq.out]; exact hL)]
            replace hL := hide hL
            replace hF := hide hF
            go_wp2_with (first | (refine st_load1 HS 0 rfl _ _ rfl g rfl rfl (by decide +kernel) (machL_w A1 M hlt) ?_) | (refine wpList_load_one _ _ rfl rfl _ rfl _ (by decide +kernel) hc.out ?_) | (refine st_storeW HS 1 rfl hlt (c := m * 3 + 2) (by omega) hb _ _ _ rfl rfl rfl rfl (by decide +kernel) ?_; clear HS; intro W HS))
            rw [PMach.setLv_twice, PMach.lv_setLv (by rw [hw4.out]; exact hlt), ← hF.out] at HS
            go_roundw
            case rel =>
             first
              | exact ⟨m + 1, by omega, by go_num, HS⟩
              | (repeat apply Exists.intro
                 exact ⟨⟨m + 1, by omega, by go_num, HS⟩, rfl⟩)
            case measure => simp [intOf]; omega
          · have hL2 : (q == wrap64 (id + 1)) = false := by simpa using hL
            have hF : freeTo id ((looseW id M g).lv g) (m + 1) = freeTo id ((looseW id M g).lv g) m := by
              show (if _ then _ else _) = _
              rw [if_neg (by rw [← hq.out]; exact hL)]
            replace hL := hide hL
            replace hF := hide hF
            go_wp2_with (first | (refine st_load1 HS 0 rfl _ _ rfl g rfl rfl (by decide +kernel) (machL_w A1 M hlt) ?_) | (refine wpList_load_one _ _ rfl rfl _ rfl _ (by decide +kernel) hc.out ?_))
            rw [← hF.out] at HS
            go_roundw
            case rel =>
             first
              | exact ⟨m + 1, by omega, by go_num, HS⟩
              | (repeat apply Exists.intro
                 exact ⟨⟨m + 1, by omega, by go_num, HS⟩, rfl⟩)
            case measure => simp [intOf]; omega
        · obtain rfl : m = (A1.w g).n := by omega
          have e : looseW id M (g + 1) = (looseW id M g).setLv g (freeTo id ((looseW id M g).lv g) (A1.w g).n) := by
            show (looseW id M g).setLv g (freeTo id ((looseW id M g).lv g) (((looseW id M g).lv g).length / 3)) = _
            rw [hwl.out, Nat.mul_div_cancel _ (by decide)]
          rw [← e] at HS
          replace e := hide e
          go_wp2_with (refine st_load1 HS 0 rfl _ _ rfl g rfl rfl (by decide +kernel) (machL_w A1 M hlt) ?_)
          go_roundw
          case rel =>
           first
            | exact ⟨g + 1, by omega, by go_num, HS⟩
            | (repeat apply Exists.intro
               exact ⟨⟨g + 1, by omega, by go_num, HS⟩, rfl⟩)
          case measure => simp [intOf]; omega
    · obtain rfl : g = 4 := by omega
      obtain ⟨bs1, hbs1, _⟩ := MachOwn.sblk (HS.out.get 1 (x := machI D1 A1 (looseW id M 4)) rfl) hk1
      have i2 : (k : Int) < (A1.s.n : Int) := by omega
      go_wp2_with (first | ((with_reducible refine isList ?_); first | (refine st_load1 HS 0 rfl _ _ rfl _ rfl rfl (by decide +kernel) rfl ?_) | (refine st_storeNil HS 1 rfl hk1 hbs1 1 (by decide) _ _ _ rfl _ rfl (show _ = k * 17 + 10 from by with_reducible rfl) rfl rfl (by decide +kernel) ?_; clear HS; intro W HS) | (refine st_storeNil HS 1 rfl hk1 hbs1 2 (by decide) _ _ _ rfl _ rfl (show _ = k * 17 + 11 from by with_reducible rfl) rfl rfl (by decide +kernel) ?_; clear HS; intro W HS) | (refine st_storeN HS 1 rfl hk1 hbs1 9 (by decide) _ _ _ rfl _ rfl (show _ = k * 17 + 12 from by with_reducible rfl) rfl rfl (by decide +kernel) ?_; clear HS; intro W HS) | (refine st_storeN HS 1 rfl hk1 hbs1 10 (by decide) _ _ _ rfl _ rfl (show _ = k * 17 + 13 from by with_reducible rfl) rfl rfl (by decide +kernel) ?_; clear HS; intro W HS) | (refine st_loadA HS 0 rfl _ _ rfl rfl rfl (by decide +kernel) (by kernel_rfl) ?_) | (refine st_storeA HS 2 rfl _ _ _ rfl rfl rfl _ rfl rfl (by kernel_rfl) rfl ?_; clear HS; intro W HS)))
      rw [hid.out] at HS
      have e1 := HS.out.get 1 rfl
      have e2 := (HS.out.here 1 _ rfl).2.2
      refine bodyPost_ret (ret_mach Tryz.results114 (HS.out.blk 2 rfl) rfl rfl) rfl ⟨_, ?_, MachOwn.mono e1 e2, hn1, HS.out.below⟩
      rfl
end Go.Proofs.YtnjognmnbpcaaaaGreat
namespace Go.Proofs.YtnjognmnbpcaaaaGreat
open Go.RowKit
set_option linter.unusedSimpArgs false
set_option linter.unusedVariables false
/-- Is there such a session of a machine that may be? -/
def hereP (M : PMach) (i : Int) : Bool := machMay M && (decide (0 ≤ i) && decide (i < M.sess.length))
/-- What is handed back: a machine in memory of its own, a number. -/
def MRet (w : World) (R : PMach × Int) (e : Ending) (w' : World) : Prop := ∃ A', e = .returned (.tuple #[machA A' R.1, .int .i64 R.2]) ∧ MachOwn (fun k => w.heap.size ≤ k ∧ k < w'.heap.size) w' A' R.1 ∧ Below w.heap.size w w'
theorem mret_no {w w' : World} {E : Int} (hb : Below w.heap.size w w') : MRet w (noMach, E) (.returned (.tuple #[.agg zeroML.toArray, .int .i64 E])) w' := ⟨noMac, rfl, machOwn_none _ _, hb⟩
theorem mret_of {w w' : World} {L : List Itm} {R : PMach × Int} {A : MacM} {D : Nat → Prop} (HS : St w w' L) (i : Nat) (e : L[i]? = some (machI D A R.1)) : MRet w R (.returned (.tuple #[.agg (machL A R.1).toArray, .int .i64 R.2])) w' :=
  ⟨A, rfl, (show MachOwn D w' A R.1 from HS.get i e).mono (HS.here i _ e).2.2, HS.below⟩
set_option maxRecDepth 100000 in
set_option maxHeartbeats 2000000 in
theorem rhere_any (A : MacM) (M : PMach) (i : Int) (w : World) (h : MachIs w A M) :
    Calls Tryz.prog 23 #[machA A M, .int .i64 i] w fun e w' => e = .returned (.bool (hereP M i)) ∧ Below w.heap.size w w' := by
  have hX := h.sess.1
  have E : Hid (hereP M i = (machMay M && (decide (0 ≤ i) && decide (i < A.s.n)))) := by
    show hereP M i = _
    unfold hereP; rw [hX]
  clear hX
  have hMay := hide fun (W : World) (hb : Below w.heap.size w W) => rmachMay_any A M W (h.below hb)
  obtain ⟨V0, hV0⟩ : ∃ V0, V0 = machA A M := ⟨_, rfl⟩
  rw [← hV0]
  have HV : Hid (V0.cells = (machL A M).toArray) := by rw [hV0]; rfl
  clear hV0
  have HM := hide h
  have HS := hide (St.refl w)
  clear h
  go_enter Tryz.func23, Tryz.ntmps23
  go_wp2_with (first | ((with_reducible refine isList ?_); first | (refine st_box HS _ _ rfl rfl (machL A M) HV.out ?_; clear HS; intro W bm HS) | (refine st_loadA HS 0 rfl _ _ rfl rfl rfl (by decide +kernel) (by kernel_rfl) ?_)))
  refine (hMay.out _ HS.out.below).mono ?_
  rintro e W1 ⟨rfl, hb⟩
  replace HS := hide (HS.out.on hb)
  clear hb hMay
  cases hm : machMay M
  · go_wp2
    go_ret
    exact ⟨ret_bool (by rw [E.out, hm]; rfl), HS.out.below⟩
  · by_cases h0 : 0 ≤ i
    · by_cases h1 : i < (A.s.n : Int)
      · go_wp2_with (first | ((with_reducible refine isList ?_); first | (refine st_load1 HS 0 rfl _ _ rfl _ rfl rfl (by decide +kernel) rfl ?_)))
        go_ret
        exact ⟨ret_bool (by rw [E.out, hm, decide_eq_true h0, decide_eq_true h1]; rfl), HS.out.below⟩
      · go_wp2_with (first | ((with_reducible refine isList ?_); first | (refine st_load1 HS 0 rfl _ _ rfl _ rfl rfl (by decide +kernel) rfl ?_)))
        go_ret
        exact ⟨ret_bool (by rw [E.out, hm, decide_eq_true h0, decide_eq_false (by omega : ¬ i < (A.s.n : Int))]; rfl), HS.out.below⟩
    · go_wp2_with (first | ((with_reducible refine isList ?_); first | (refine st_load1 HS 0 rfl _ _ rfl _ rfl rfl (by decide +kernel) rfl ?_)))
      go_ret
      exact ⟨ret_bool (by rw [E.out, hm, decide_eq_false (by omega : ¬ 0 ≤ i)]; rfl), HS.out.below⟩
theorem hereP_yes {M : PMach} {i : Int} (h : hereP M i = true) : machMay M = true ∧ ∃ k : Nat, i = k ∧ k < M.sess.length := by
  unfold hereP at h
  simp only [Bool.and_eq_true, decide_eq_true_eq] at h
  exact ⟨h.1, i.toNat, by omega, by omega⟩
end Go.Proofs.YtnjognmnbpcaaaaGreat
namespace Go.Proofs.YtnjognmnbpcaaaaGreat
open Go.RowKit
set_option linter.unusedSimpArgs false
set_option linter.unusedVariables false
/-- One number of a word; a word. -/
def PMach.doW1 (M : PMach) (g c : Nat) (v : Int) : PMach := M.setLv g ((M.lv g).set c v)
def PMach.doW (M : PMach) (g j : Nat) (v n l : Int) : PMach := ((M.doW1 g (j * 3) v).doW1 g (j * 3 + 1) n).doW1 g (j * 3 + 2) l
theorem MachOwn.turnWW {D : Nat → Prop} {W : World} {A : MacM} {M : PMach} (h : MachOwn D W A M) {g b j : Nat} (hg : g < 4) (hj : j < (A.w g).n) (hb : (A.w g).a = some ⟨b, 0, none⟩) (v n l : Int) :
    MachOwn D (W.setCells b (j * 3) [.int .i64 v, .int .i64 n, .int .i64 l]) A (M.doW g j v n l) :=
  ((h.turnW hg (by omega : j * 3 < _) hb v).turnW hg (by omega : j * 3 + 1 < _) hb n).turnW hg (by omega : j * 3 + 2 < _) hb l
section
variable {w0 w : World} {L : List Itm} {P : Program} {ops : Array Oper} {rest : List Oper} {op : Oper} {a : Act} {K : Act → World → Prop} {Q : Exit → Act → World → Prop} {D : Nat → Prop} {A : MacM} {M : PMach}
theorem stw_storeWW (HS : Hid (St w0 w L)) (i : Nat) (ei : L[i]? = some (machI D A M)) {g b j : Nat} (hg : g < 4) (hj : j < (A.w g).n) (hb : (A.w g).a = some ⟨b, 0, none⟩) (ty : TypeId) (x y : Operand) (ho : op.op = .store ty x y) (o : Nat) (hx : a.eval x = .pointer (some ⟨b, o, none⟩)) (ho' : o = j * 3)
    {v n l : Int} (hy : ValOf a y (.agg #[.int .i64 v, .int .i64 n, .int .i64 l])) (hi : (P.info? ty).map (·.size) = some 3) (hw : ∀ W, Hid (St w0 W (L.set i (machI D A (M.doW g j v n l)))) → K (a.put op.dst undef) W) : op.wp P a w K Q := by
  have hM : MachOwn D w A M := HS.out.get i ei
  obtain ⟨b2, e, hD, l2, hl⟩ := hM.wblk hg (by omega)
  rw [hb] at e; cases e
  subst ho'
  refine wp_store_mid ty x y ho b (j * 3) #[.int .i64 v, .int .i64 n, .int .i64 l] hx hy.eval (fun c hc => ?_) hi (by simp [Value.oneCell']) (hw _ (HS.out.set i ei _ ?_ (machI_loc _ _ _) (hM.turnWW hg hj hb v n l) fun k hk => .inl hk))
  · have hc3 : c < 3 := hc
    have := hM.is.wcell hg hj hc3 hb
    rw [Nat.zero_add] at this
    exact ⟨by rw [this]; rfl, hl.frozen _⟩
  · exact (chg_touch (Touch.setCells _ _ _)).mono fun k _ hk => by
      obtain rfl : k = b := by omega
      exact hD
end
end Go.Proofs.YtnjognmnbpcaaaaGreat
namespace Go.Proofs.YtnjognmnbpcaaaaGreat
open Go.RowKit
set_option linter.unusedSimpArgs false
set_option linter.unusedVariables false
theorem Tryz.infoI : (Tryz.prog.info? 47).map (fun i => (i.zero, i.size, i.bytes)) = some (some (.agg #[.int .i64 0, .int .i64 0, .int .i64 0, .int .i64 0]), 4, 32) := by kernel_rfl
/-- A literal list is a thing that a call holds. -/
theorem St.lit {w0 W : World} {L : List Itm} (h : St w0 W L) (k n : Nat) (l : List Int) (t : TypeId) (hl : l.length = n * k) (hf : n * (8 * k) ≤ 140737488351232) :
    St w0 (W.alloc (.cells (l.map (Value.int .i64)).toArray t)) (lisI (fun j => j = W.heap.size) k ⟨some ⟨W.heap.size, 0, none⟩, n, n⟩ l :: L) := by
  have hb := blk_new W (l.map (Value.int .i64)) t
  exact h.push ((Below.refl _ W).alloc (Nat.le_refl _) _) (lisI (fun j => j = W.heap.size) k ⟨some ⟨W.heap.size, 0, none⟩, n, n⟩ l) (lisI_loc _ _ _ _) ⟨⟨hl, ⟨hf, Nat.le_refl _, fun h => by cases h⟩, fun i hi => ⟨W.heap.size, 0, rfl, hb.lt, by
    rw [Nat.zero_add]
    have hi' : i < l.length := by rw [hl]; exact hi
    refine hb.cell i _ ?_
    simp [lz, List.getD, hi']⟩⟩, fun _ => ⟨_, rfl, rfl, _, hb⟩⟩ fun k hk => by
      have hk : k = W.heap.size := hk
      subst hk
      exact ⟨Nat.le_refl _, by simp⟩
set_option maxRecDepth 100000 in
theorem fill_2_4 (x0_0 x0_1 x0_2 x0_3 x1_0 x1_1 x1_2 x1_3 : Int) : Instr.fill (fun i => some (i * 4, 4)) ((Array.range (2 * 4)).map (#[Value.int .i64 0, Value.int .i64 0, Value.int .i64 0, Value.int .i64 0][· % 4]!)) [(0, .agg #[.int .i64 x0_0, .int .i64 x0_1, .int .i64 x0_2, .int .i64 x0_3]), (1, .agg #[.int .i64 x1_0, .int .i64 x1_1, .int .i64 x1_2, .int .i64 x1_3])] = some #[.int .i64 x0_0, .int .i64 x0_1, .int .i64 x0_2, .int .i64 x0_3, .int .i64 x1_0, .int .i64 x1_1, .int .i64 x1_2, .int .i64 x1_3] := by
  kernel_rfl
theorem stw_lit_2_4 {w0 w : World} {L : List Itm} {P : Program} {op : Oper} {a : Act} {K : Act → World → Prop} {Q : Exit → Act → World → Prop} (HS : Hid (St w0 w L)) (ts te : TypeId) (o0 o1 : Operand) (ho : op.op = .buildSlice ts 2 #[(0, o0), (1, o1)]) (hu : P.underlying ts = some (.slice te)) (hinfo : (P.info? te).map (fun i => (i.zero, i.size, i.bytes)) = some (some (.agg #[Value.int .i64 0, Value.int .i64 0, Value.int .i64 0, Value.int .i64 0]), 4, 32)) {x0_0 x0_1 x0_2 x0_3 x1_0 x1_1 x1_2 x1_3 : Int} (h0 : ValOf a o0 (.agg #[.int .i64 x0_0, .int .i64 x0_1, .int .i64 x0_2, .int .i64 x0_3])) (h1 : ValOf a o1 (.agg #[.int .i64 x1_0, .int .i64 x1_1, .int .i64 x1_2, .int .i64 x1_3]))
    (hw : ∀ W b, Hid (St w0 W (lisI (fun j => j = b) 4 ⟨some ⟨b, 0, none⟩, 2, 2⟩ [x0_0, x0_1, x0_2, x0_3, x1_0, x1_1, x1_2, x1_3] :: L)) → K (a.put op.dst (.slice (some ⟨b, 0, none⟩) 2 2)) W) : op.wp P a w K Q := by
  obtain ⟨i, hi, hz, hs, hy⟩ := info_parts hinfo
  refine wp_buildSlice ts te 2 _ ho #[.int .i64 x0_0, .int .i64 x0_1, .int .i64 x0_2, .int .i64 x0_3, .int .i64 x1_0, .int .i64 x1_1, .int .i64 x1_2, .int .i64 x1_3] i (.agg #[Value.int .i64 0, Value.int .i64 0, Value.int .i64 0, Value.int .i64 0]) hu hi hz (by rw [hs]; decide) (by rw [hs]; decide) ?_ (hw _ _ (HS.out.lit 4 2 [x0_0, x0_1, x0_2, x0_3, x1_0, x1_1, x1_2, x1_3] te rfl (by decide)))
  simp only [List.map_toArray, List.map_cons, List.map_nil, h0.eval, h1.eval]
  rw [hs]
  exact fill_2_4 x0_0 x0_1 x0_2 x0_3 x1_0 x1_1 x1_2 x1_3
theorem st_lit_2_4 {w0 w : World} {L : List Itm} {P : Program} {ops : Array Oper} {rest : List Oper} {op : Oper} {a : Act} {Q : Exit → Act → World → Prop} (HS : Hid (St w0 w L)) (ts te : TypeId) (o0 o1 : Operand) (ho : op.op = .buildSlice ts 2 #[(0, o0), (1, o1)]) (hgd : Region.wanted op (yielded ops a.tmps) = true) (hu : P.underlying ts = some (.slice te)) (hinfo : (P.info? te).map (fun i => (i.zero, i.size, i.bytes)) = some (some (.agg #[Value.int .i64 0, Value.int .i64 0, Value.int .i64 0, Value.int .i64 0]), 4, 32)) {x0_0 x0_1 x0_2 x0_3 x1_0 x1_1 x1_2 x1_3 : Int} (h0 : ValOf a o0 (.agg #[.int .i64 x0_0, .int .i64 x0_1, .int .i64 x0_2, .int .i64 x0_3])) (h1 : ValOf a o1 (.agg #[.int .i64 x1_0, .int .i64 x1_1, .int .i64 x1_2, .int .i64 x1_3]))
    (hw : ∀ W b, Hid (St w0 W (lisI (fun j => j = b) 4 ⟨some ⟨b, 0, none⟩, 2, 2⟩ [x0_0, x0_1, x0_2, x0_3, x1_0, x1_1, x1_2, x1_3] :: L)) → wpList P ops Q rest (a.put op.dst (.slice (some ⟨b, 0, none⟩) 2 2)) W) : wpList P ops Q (op :: rest) a w :=
  BigFrame.wpList_want hgd fun _ hK => stw_lit_2_4 HS ts te o0 o1 ho hu hinfo h0 h1 fun W b h => hK _ _ (hw W b h)
set_option maxRecDepth 100000 in
theorem fill_4_4 (x0_0 x0_1 x0_2 x0_3 x1_0 x1_1 x1_2 x1_3 x2_0 x2_1 x2_2 x2_3 x3_0 x3_1 x3_2 x3_3 : Int) : Instr.fill (fun i => some (i * 4, 4)) ((Array.range (4 * 4)).map (#[Value.int .i64 0, Value.int .i64 0, Value.int .i64 0, Value.int .i64 0][· % 4]!)) [(0, .agg #[.int .i64 x0_0, .int .i64 x0_1, .int .i64 x0_2, .int .i64 x0_3]), (1, .agg #[.int .i64 x1_0, .int .i64 x1_1, .int .i64 x1_2, .int .i64 x1_3]), (2, .agg #[.int .i64 x2_0, .int .i64 x2_1, .int .i64 x2_2, .int .i64 x2_3]), (3, .agg #[.int .i64 x3_0, .int .i64 x3_1, .int .i64 x3_2, .int .i64 x3_3])] = some #[.int .i64 x0_0, .int .i64 x0_1, .int .i64 x0_2, .int .i64 x0_3, .int .i64 x1_0, .int .i64 x1_1, .int .i64 x1_2, .int .i64 x1_3, .int .i64 x2_0, .int .i64 x2_1, .int .i64 x2_2, .int .i64 x2_3, .int .i64 x3_0, .int .i64 x3_1, .int .i64 x3_2, .int .i64 x3_3] := by
  kernel_rfl
theorem stw_lit_4_4 {w0 w : World} {L : List Itm} {P : Program} {op : Oper} {a : Act} {K : Act → World → Prop} {Q : Exit → Act → World → Prop} (HS : Hid (St w0 w L)) (ts te : TypeId) (o0 o1 o2 o3 : Operand) (ho : op.op = .buildSlice ts 4 #[(0, o0), (1, o1), (2, o2), (3, o3)]) (hu : P.underlying ts = some (.slice te)) (hinfo : (P.info? te).map (fun i => (i.zero, i.size, i.bytes)) = some (some (.agg #[Value.int .i64 0, Value.int .i64 0, Value.int .i64 0, Value.int .i64 0]), 4, 32)) {x0_0 x0_1 x0_2 x0_3 x1_0 x1_1 x1_2 x1_3 x2_0 x2_1 x2_2 x2_3 x3_0 x3_1 x3_2 x3_3 : Int} (h0 : ValOf a o0 (.agg #[.int .i64 x0_0, .int .i64 x0_1, .int .i64 x0_2, .int .i64 x0_3])) (h1 : ValOf a o1 (.agg #[.int .i64 x1_0, .int .i64 x1_1, .int .i64 x1_2, .int .i64 x1_3])) (h2 : ValOf a o2 (.agg #[.int .i64 x2_0, .int .i64 x2_1, .int .i64 x2_2, .int .i64 x2_3])) (h3 : ValOf a o3 (.agg #[.int .i64 x3_0, .int .i64 x3_1, .int .i64 x3_2, .int .i64 x3_3]))
    (hw : ∀ W b, Hid (St w0 W (lisI (fun j => j = b) 4 ⟨some ⟨b, 0, none⟩, 4, 4⟩ [x0_0, x0_1, x0_2, x0_3, x1_0, x1_1, x1_2, x1_3, x2_0, x2_1, x2_2, x2_3, x3_0, x3_1, x3_2, x3_3] :: L)) → K (a.put op.dst (.slice (some ⟨b, 0, none⟩) 4 4)) W) : op.wp P a w K Q := by
  obtain ⟨i, hi, hz, hs, hy⟩ := info_parts hinfo
  refine wp_buildSlice ts te 4 _ ho #[.int .i64 x0_0, .int .i64 x0_1, .int .i64 x0_2, .int .i64 x0_3, .int .i64 x1_0, .int .i64 x1_1, .int .i64 x1_2, .int .i64 x1_3, .int .i64 x2_0, .int .i64 x2_1, .int .i64 x2_2, .int .i64 x2_3, .int .i64 x3_0, .int .i64 x3_1, .int .i64 x3_2, .int .i64 x3_3] i (.agg #[Value.int .i64 0, Value.int .i64 0, Value.int .i64 0, Value.int .i64 0]) hu hi hz (by rw [hs]; decide) (by rw [hs]; decide) ?_ (hw _ _ (HS.out.lit 4 4 [x0_0, x0_1, x0_2, x0_3, x1_0, x1_1, x1_2, x1_3, x2_0, x2_1, x2_2, x2_3, x3_0, x3_1, x3_2, x3_3] te rfl (by decide)))
  simp only [List.map_toArray, List.map_cons, List.map_nil, h0.eval, h1.eval, h2.eval, h3.eval]
  rw [hs]
  exact fill_4_4 x0_0 x0_1 x0_2 x0_3 x1_0 x1_1 x1_2 x1_3 x2_0 x2_1 x2_2 x2_3 x3_0 x3_1 x3_2 x3_3
theorem st_lit_4_4 {w0 w : World} {L : List Itm} {P : Program} {ops : Array Oper} {rest : List Oper} {op : Oper} {a : Act} {Q : Exit → Act → World → Prop} (HS : Hid (St w0 w L)) (ts te : TypeId) (o0 o1 o2 o3 : Operand) (ho : op.op = .buildSlice ts 4 #[(0, o0), (1, o1), (2, o2), (3, o3)]) (hgd : Region.wanted op (yielded ops a.tmps) = true) (hu : P.underlying ts = some (.slice te)) (hinfo : (P.info? te).map (fun i => (i.zero, i.size, i.bytes)) = some (some (.agg #[Value.int .i64 0, Value.int .i64 0, Value.int .i64 0, Value.int .i64 0]), 4, 32)) {x0_0 x0_1 x0_2 x0_3 x1_0 x1_1 x1_2 x1_3 x2_0 x2_1 x2_2 x2_3 x3_0 x3_1 x3_2 x3_3 : Int} (h0 : ValOf a o0 (.agg #[.int .i64 x0_0, .int .i64 x0_1, .int .i64 x0_2, .int .i64 x0_3])) (h1 : ValOf a o1 (.agg #[.int .i64 x1_0, .int .i64 x1_1, .int .i64 x1_2, .int .i64 x1_3])) (h2 : ValOf a o2 (.agg #[.int .i64 x2_0, .int .i64 x2_1, .int .i64 x2_2, .int .i64 x2_3])) (h3 : ValOf a o3 (.agg #[.int .i64 x3_0, .int .i64 x3_1, .int .i64 x3_2, .int .i64 x3_3]))
    (hw : ∀ W b, Hid (St w0 W (lisI (fun j => j = b) 4 ⟨some ⟨b, 0, none⟩, 4, 4⟩ [x0_0, x0_1, x0_2, x0_3, x1_0, x1_1, x1_2, x1_3, x2_0, x2_1, x2_2, x2_3, x3_0, x3_1, x3_2, x3_3] :: L)) → wpList P ops Q rest (a.put op.dst (.slice (some ⟨b, 0, none⟩) 4 4)) W) : wpList P ops Q (op :: rest) a w :=
  BigFrame.wpList_want hgd fun _ hK => stw_lit_4_4 HS ts te o0 o1 o2 o3 ho hu hinfo h0 h1 h2 h3 fun W b h => hK _ _ (hw W b h)
end Go.Proofs.YtnjognmnbpcaaaaGreat
