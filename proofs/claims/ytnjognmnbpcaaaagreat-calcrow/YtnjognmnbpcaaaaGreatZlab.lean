/-
  Several small texts in one: WordPure, Mem, Quad, InstPure, ProgPure, Plain, LabelCalls, LabelAnys, LabelUp, SessPure, Row, Own, Lz, Sl, Touch, Stay, MachPure, Kin, LoadAll, StoreAll, Sep, AppendRow, MachOwn, EqTo, At3, WordsSame, ArenaPure, RefSmall, WordCalls, WordRef, ArenaRef.
-/
import Derived.WalkKit
import Derived.Below
import Derived.Handy
import Derived.Deep.Draws
import Derived.Test.YtnjognmnbpcaaaaGreatRows
import Derived.WalkSpells
import Derived.WalkSmall
import Derived.WideShapes
import Derived.Laws.AppendOwn
import Derived.Deep.QuietTactic
import Derived.BigQuiet
import Derived.Deep.MidRow
import Derived.BigFrame
import Derived.Laws.AppendOwnNone
import Derived.OwnWalk
import Derived.Deep.AppendLies
namespace Go.Proofs.YtnjognmnbpcaaaaGreat
open Go.RowKit
/-- From 0 to a most? -/
def upToV (n m : Int) : Bool := decide (0 ≤ n ∧ n ≤ m)
/-- A word's value. -/
def wordA (v n l : Int) : Value := .agg #[.int .i64 v, .int .i64 n, .int .i64 l]
/-- May it be a word? -/
def wmay (v n l : Int) : Bool := upToV v 255 && upToV n 65535 && upToV l 255
theorem upToV_yes {n m : Int} (h : upToV n m = true) : 0 ≤ n ∧ n ≤ m := of_decide_eq_true h
theorem upToV_of {n m : Int} (h0 : 0 ≤ n) (h1 : n ≤ m) : upToV n m = true := decide_eq_true ⟨h0, h1⟩
theorem upToV_not {n m : Int} (h : n < 0 ∨ m < n) : upToV n m = false := decide_eq_false (by omega)
theorem wmay_of {v n l : Int} (hv : upToV v 255 = true) (hn : upToV n 65535 = true) (hl : upToV l 255 = true) : wmay v n l = true := by
  unfold wmay; rw [hv, hn, hl]; rfl
theorem wmay_no1 {v n l : Int} (h : upToV v 255 = false) : wmay v n l = false := by unfold wmay; rw [h]; rfl
theorem wmay_no2 {v n l : Int} (h : upToV n 65535 = false) : wmay v n l = false := by unfold wmay; rw [h]; simp
theorem wmay_no3 {v n l : Int} (h : upToV l 255 = false) : wmay v n l = false := by unfold wmay; rw [h]; simp
/-- The number of Lock's error. -/
def lockE (v n l i : Int) : Int := bif wmay v n l && upToV i 254 then (if l = 0 then 0 else 301) else 300
/-- Lock's word. -/
def lockW (v n l i : Int) : Value := bif wmay v n l && upToV i 254 then (if l = 0 then wordA v n (i + 1) else wordA 0 0 0) else wordA 0 0 0
/-- The number of Write's error (Free's: of a word's own value, version). -/
def writeE (v n l x y : Int) : Int := bif wmay v n l && wmay x y 0 then 0 else 300
/-- Write's word. -/
def writeW (v n l x y : Int) : Value := bif wmay v n l && wmay x y 0 then wordA x y 0 else wordA 0 0 0
end Go.Proofs.YtnjognmnbpcaaaaGreat
namespace Go.Proofs.YtnjognmnbpcaaaaGreat
open Go.RowKit
/-- Block b holds the cells l. -/
def Blk (w : World) (b : Nat) (l : List Value) : Prop := ∃ t, w.heap[b]? = some (.cells l.toArray t (0, 0))
theorem blk_new (w : World) (l : List Value) (t : TypeId) : Blk (w.alloc (.cells l.toArray t)) w.heap.size l := ⟨t, by show (w.heap.push _)[w.heap.size]? = _; exact Array.getElem?_push_size⟩
theorem Blk.lt {w : World} {b : Nat} {l : List Value} (h : Blk w b l) : b < w.heap.size := by
  obtain ⟨t, h⟩ := h
  exact (Array.getElem?_eq_some_iff.1 h).1
theorem Blk.alloc {w : World} {b : Nat} {l : List Value} (h : Blk w b l) (o : Obj) : Blk (w.alloc o) b l := by
  have := h.lt
  obtain ⟨t, h⟩ := h
  exact ⟨t, by rw [Below.heap_alloc _ _ _ this]; exact h⟩
theorem Blk.below {w w' : World} {B b : Nat} {l : List Value} (h : Blk w b l) (hb : Below B w w') (hB : b < B) : Blk w' b l := by
  obtain ⟨t, h⟩ := h
  exact ⟨t, by rw [hb.block b hB]; exact h⟩
/-- Behind a call that left what lay below as it was. -/
theorem Blk.on {w w' : World} {b : Nat} {l : List Value} (h : Blk w b l) (hb : Below w.heap.size w w') : Blk w' b l := h.below hb h.lt
theorem Blk.drew {w : World} {b : Nat} {l : List Value} (h : Blk w b l) : Blk w.drew b l := h
theorem Blk.cell {w : World} {b : Nat} {l : List Value} (h : Blk w b l) (i : Nat) (v : Value) (hi : l[i]? = some v) : w.cell? ⟨b, i, none⟩ = some v := by
  obtain ⟨t, h⟩ := h
  simp [World.cell?, h, hi]
theorem Blk.frozen {w : World} {b : Nat} {l : List Value} (h : Blk w b l) (i : Nat) : w.frozen? ⟨b, i, none⟩ = false := by
  obtain ⟨t, h⟩ := h
  simp [World.frozen?, h]
theorem Blk.set {w : World} {b : Nat} {l : List Value} (h : Blk w b l) (i : Nat) (v : Value) : Blk (w.setCell ⟨b, i, none⟩ v) b (l.set i v) := by
  obtain ⟨t, h⟩ := h
  refine ⟨t, ?_⟩
  simp only [World.setCell, Array.getElem?_modify, if_true, h, Option.map_some]
  simp
theorem Blk.far {w : World} {b : Nat} {l : List Value} (h : Blk w b l) {a : Addr} (v : Value) (hb : b ≠ a.block) : Blk (w.setCell a v) b l := by
  obtain ⟨t, h⟩ := h
  exact ⟨t, by rw [Below.heap_setCell _ _ _ _ hb]; exact h⟩
/-- One of one cell, of two, of three, of four: each cell, each mark. -/
theorem Blk.one {w : World} {b : Nat} {x : Value} (h : Blk w b [x]) : w.cell? ⟨b, 0, none⟩ = some x ∧ w.frozen? ⟨b, 0, none⟩ = false := ⟨h.cell 0 _ rfl, h.frozen 0⟩
theorem Blk.three {w : World} {b : Nat} {x y z : Value} (h : Blk w b [x, y, z]) : (w.cell? ⟨b, 0, none⟩ = some x ∧ w.cell? ⟨b, 1, none⟩ = some y ∧ w.cell? ⟨b, 2, none⟩ = some z) ∧ w.frozen? ⟨b, 0, none⟩ = false ∧ w.frozen? ⟨b, 1, none⟩ = false ∧ w.frozen? ⟨b, 2, none⟩ = false :=
  ⟨⟨h.cell 0 _ rfl, h.cell 1 _ rfl, h.cell 2 _ rfl⟩, h.frozen 0, h.frozen 1, h.frozen 2⟩
theorem Blk.four {w : World} {b : Nat} {x y z u : Value} (h : Blk w b [x, y, z, u]) : (w.cell? ⟨b, 0, none⟩ = some x ∧ w.cell? ⟨b, 1, none⟩ = some y ∧ w.cell? ⟨b, 2, none⟩ = some z ∧ w.cell? ⟨b, 3, none⟩ = some u) ∧ w.frozen? ⟨b, 0, none⟩ = false ∧ w.frozen? ⟨b, 1, none⟩ = false ∧ w.frozen? ⟨b, 2, none⟩ = false ∧ w.frozen? ⟨b, 3, none⟩ = false :=
  ⟨⟨h.cell 0 _ rfl, h.cell 1 _ rfl, h.cell 2 _ rfl, h.cell 3 _ rfl⟩, h.frozen 0, h.frozen 1, h.frozen 2, h.frozen 3⟩
/-- Behind a call that left what lay below as it was. -/
theorem Below.on {w W w1 : World} (h : Below w.heap.size w W) (hb : Below W.heap.size W w1) : Below w.heap.size w w1 := h.trans (hb.mono h.size)
theorem Below.drawn {B : Nat} {a w : World} (h : Below B a w) (n : Nat) : Below B a (w.drewN n) := ⟨h.os, h.tape, h.output, h.size, h.block⟩
theorem Blk.drawn {w : World} {b : Nat} {l : List Value} (h : Blk w b l) (n : Nat) : Blk (w.drewN n) b l := h
theorem Blk.grown {w w' : World} {b : Nat} {l : List Value} {row : Option Nat} (h : Blk w b l) (hg : w.grownBy w' row) (hr : some b ≠ row) : Blk w' b l := by
  have hlt := h.lt
  obtain ⟨t, h⟩ := h
  exact ⟨t, by rw [hg.block b hlt hr]; exact h⟩
/-- Blocks, each with its cells. -/
def Held (w : World) (L : List (Nat × List Value)) : Prop := ∀ p ∈ L, Blk w p.1 p.2
theorem Held.nil (w : World) : Held w [] := fun _ h => by cases h
theorem Held.cons {w : World} {b : Nat} {l : List Value} {L : List (Nat × List Value)} (h : Blk w b l) (H : Held w L) : Held w ((b, l) :: L) := fun p hp => by
  rcases List.mem_cons.1 hp with rfl | hp
  · exact h
  · exact H p hp
theorem Held.on {w w' : World} {L : List (Nat × List Value)} (H : Held w L) (hb : Below w.heap.size w w') : Held w' L := fun p hp => (H p hp).on hb
theorem Held.alloc {w : World} {L : List (Nat × List Value)} (H : Held w L) (o : Obj) : Held (w.alloc o) L := fun p hp => (H p hp).alloc o
theorem Held.drawn {w : World} {L : List (Nat × List Value)} (H : Held w L) (n : Nat) : Held (w.drewN n) L := H
theorem Held.at {w : World} {L : List (Nat × List Value)} (H : Held w L) (i : Nat) {b : Nat} {l : List Value} (h : L[i]? = some (b, l)) : Blk w b l := H (b, l) (List.mem_of_getElem? h)
end Go.Proofs.YtnjognmnbpcaaaaGreat
namespace Go.Proofs.YtnjognmnbpcaaaaGreat
open Go.RowKit
/-- Four numbers: an array's value. -/
def quadA (c : Nat → Int) : Value := .agg #[.int .i64 (c 0), .int .i64 (c 1), .int .i64 (c 2), .int .i64 (c 3)]
/-- The cells of that value. -/
def quadL (c : Nat → Int) : List Value := [.int .i64 (c 0), .int .i64 (c 1), .int .i64 (c 2), .int .i64 (c 3)]
/-- Another number in a place. -/
def updQ (c : Nat → Int) (k : Nat) (x : Int) (i : Nat) : Int := if i = k then x else c i
theorem updQ_same (c : Nat → Int) (k : Nat) (x : Int) : updQ c k x k = x := if_pos rfl
theorem quadL_get (c : Nat → Int) {k : Nat} (hk : k < 4) : (quadL c)[k]? = some (.int .i64 (c k)) := by
  have : k = 0 ∨ k = 1 ∨ k = 2 ∨ k = 3 := by omega
  rcases this with rfl | rfl | rfl | rfl <;> rfl
theorem quadL_set (c : Nat → Int) {k : Nat} (hk : k < 4) (x : Int) : (quadL c).set k (.int .i64 x) = quadL (updQ c k x) := by
  have : k = 0 ∨ k = 1 ∨ k = 2 ∨ k = 3 := by omega
  rcases this with rfl | rfl | rfl | rfl <;> rfl
/-- The four of them, named. -/
def quad (a b c d : Int) : Nat → Int
  | 0 => a
  | 1 => b
  | 2 => c
  | _ => d
/-- Are the first k from 0 to h? -/
def allUp (c : Nat → Int) (h : Int) : Nat → Bool
  | 0 => true
  | k + 1 => allUp c h k && upToV (c k) h
theorem allUp_get {c : Nat → Int} {h : Int} : ∀ {n : Nat}, allUp c h n = true → ∀ i, i < n → upToV (c i) h = true
  | 0, _, i, hi => absurd hi (Nat.not_lt_zero _)
  | n + 1, e, i, hi => by
    simp only [allUp, Bool.and_eq_true] at e
    by_cases x : i = n
    · subst x; exact e.2
    · exact allUp_get e.1 i (by omega)
theorem allUp_mk {c : Nat → Int} {h : Int} : ∀ {n : Nat}, (∀ i, i < n → upToV (c i) h = true) → allUp c h n = true
  | 0, _ => rfl
  | n + 1, e => by rw [allUp, allUp_mk fun i hi => e i (by omega), e n (by omega)]; rfl
theorem allUp_no {c : Nat → Int} {h : Int} {n : Nat} (i : Nat) (hi : i < n) (e : upToV (c i) h = false) : allUp c h n = false := by
  cases x : allUp c h n with
  | false => rfl
  | true => rw [allUp_get x i hi] at e; cases e
theorem Blk.cells4 {w : World} {b : Nat} {x y z u : Value} (h : Blk w b [x, y, z, u]) : w.cell? ⟨b, 0, none⟩ = some x ∧ w.cell? ⟨b, 1, none⟩ = some y ∧ w.cell? ⟨b, 2, none⟩ = some z ∧ w.cell? ⟨b, 3, none⟩ = some u := h.four.1
/-- A whole array stored over another one. -/
theorem Blk.over {w : World} {b : Nat} {c : Nat → Int} (h : Blk w b (quadL c)) (d : Nat → Int) :
    Blk ((((w.setCell ⟨b, 0, none⟩ (.int .i64 (d 0))).setCell ⟨b, 1, none⟩ (.int .i64 (d 1))).setCell ⟨b, 2, none⟩ (.int .i64 (d 2))).setCell ⟨b, 3, none⟩ (.int .i64 (d 3))) b (quadL d) :=
  (((h.set 0 (.int .i64 (d 0))).set 1 (.int .i64 (d 1))).set 2 (.int .i64 (d 2))).set 3 (.int .i64 (d 3))
theorem Below.over {B : Nat} {a w : World} {b : Nat} (h : Below B a w) (hb : B ≤ b) (d : Nat → Int) :
    Below B a ((((w.setCell ⟨b, 0, none⟩ (.int .i64 (d 0))).setCell ⟨b, 1, none⟩ (.int .i64 (d 1))).setCell ⟨b, 2, none⟩ (.int .i64 (d 2))).setCell ⟨b, 3, none⟩ (.int .i64 (d 3))) :=
  (((h.setCell hb _).setCell hb _).setCell hb _).setCell hb _
end Go.Proofs.YtnjognmnbpcaaaaGreat
namespace Go.Proofs.YtnjognmnbpcaaaaGreat
open Go.RowKit
/-- May it be an instruction? -/
def instMay (i : Nat → Int) : Bool :=
  if i 0 = 0 then upToV (i 1) 3 && upToV (i 2) 255 && (i 3 == 0)
  else if i 0 = 1 then upToV (i 1) 3 && upToV (i 2) 3 && (i 3 == 0)
  else if i 0 = 2 ∨ i 0 = 3 then upToV (i 1) 3 && upToV (i 2) 3 && upToV (i 3) 3
  else if i 0 = 4 then upToV (i 1) 3 && upToV (i 2) 16 && (i 3 == 0)
  else if i 0 = 5 then (i 1 == 0) && (i 2 == 0) && (i 3 == 0)
  else if i 0 = 6 then upToV (i 1) 255 && (i 2 == 0) && (i 3 == 0)
  else false
section
variable {i : Nat → Int}
theorem instMay_0 (h : i 0 = 0) : instMay i = (upToV (i 1) 3 && upToV (i 2) 255 && (i 3 == 0)) := by unfold instMay; rw [if_pos h]
theorem instMay_1 (h : i 0 = 1) : instMay i = (upToV (i 1) 3 && upToV (i 2) 3 && (i 3 == 0)) := by unfold instMay; rw [if_neg (by omega), if_pos h]
theorem instMay_23 (h : i 0 = 2 ∨ i 0 = 3) : instMay i = (upToV (i 1) 3 && upToV (i 2) 3 && upToV (i 3) 3) := by unfold instMay; rw [if_neg (by omega), if_neg (by omega), if_pos h]
theorem instMay_4 (h : i 0 = 4) : instMay i = (upToV (i 1) 3 && upToV (i 2) 16 && (i 3 == 0)) := by unfold instMay; rw [if_neg (by omega), if_neg (by omega), if_neg (by omega), if_pos h]
theorem instMay_5 (h : i 0 = 5) : instMay i = ((i 1 == 0) && (i 2 == 0) && (i 3 == 0)) := by unfold instMay; rw [if_neg (by omega), if_neg (by omega), if_neg (by omega), if_neg (by omega), if_pos h]
theorem instMay_6 (h : i 0 = 6) : instMay i = (upToV (i 1) 255 && (i 2 == 0) && (i 3 == 0)) := by unfold instMay; rw [if_neg (by omega), if_neg (by omega), if_neg (by omega), if_neg (by omega), if_neg (by omega), if_pos h]
theorem instMay_no (h0 : i 0 < 0 ∨ 6 < i 0) : instMay i = false := by unfold instMay; rw [if_neg (by omega), if_neg (by omega), if_neg (by omega), if_neg (by omega), if_neg (by omega), if_neg (by omega)]
theorem inst_cases (i : Nat → Int) : (i 0 < 0 ∨ 6 < i 0) ∨ i 0 = 0 ∨ i 0 = 1 ∨ i 0 = 2 ∨ i 0 = 3 ∨ i 0 = 4 ∨ i 0 = 5 ∨ i 0 = 6 := by omega
theorem and3b {x y z : Bool} (h : (x && y && z) = true) : x = true ∧ y = true ∧ z = true := by
  simp only [Bool.and_eq_true] at h
  exact ⟨h.1.1, h.1.2, h.2⟩
end
end Go.Proofs.YtnjognmnbpcaaaaGreat
namespace Go.Proofs.YtnjognmnbpcaaaaGreat
open Go.RowKit
/-- The k-th instruction. -/
def instAt (z : Nat → Int) (k : Nat) : Nat → Int := fun j => z (k * 4 + j)
/-- Does the k-th instruction jump where it may not? -/
def badJump (z : Nat → Int) (n k : Nat) : Bool := (z (k * 4) == 4) && (decide (z (k * 4 + 2) ≤ (k : Int)) || decide ((n : Int) < z (k * 4 + 2)))
/-- May the first k be, of n? -/
def progTo (z : Nat → Int) (n : Nat) : Nat → Bool
  | 0 => true
  | k + 1 => progTo z n k && (instMay (instAt z k) && !badJump z n k)
/-- May it be a program? -/
def progMay (n : Nat) (z : Nat → Int) : Bool := progTo z n n && decide (n ≤ 16)
theorem progTo_get {z : Nat → Int} {n : Nat} : ∀ {k : Nat}, progTo z n k = true → ∀ i, i < k → instMay (instAt z i) = true ∧ badJump z n i = false
  | 0, _, i, hi => absurd hi (Nat.not_lt_zero _)
  | k + 1, h, i, hi => by
    simp only [progTo, Bool.and_eq_true, Bool.not_eq_true'] at h
    by_cases e : i = k
    · subst e; exact h.2
    · exact progTo_get h.1 i (by omega)
theorem progTo_mk {z : Nat → Int} {n : Nat} : ∀ {k : Nat}, (∀ i, i < k → instMay (instAt z i) = true ∧ badJump z n i = false) → progTo z n k = true
  | 0, _ => rfl
  | k + 1, h => by rw [progTo, progTo_mk fun i hi => h i (by omega), (h k (by omega)).1, (h k (by omega)).2]; rfl
theorem progTo_no {z : Nat → Int} {n k : Nat} (i : Nat) (hi : i < k) (h : (instMay (instAt z i) && !badJump z n i) = false) : progTo z n k = false := by
  cases e : progTo z n k with
  | false => rfl
  | true =>
    obtain ⟨h1, h2⟩ := progTo_get e i hi
    rw [h1, h2] at h
    cases h
theorem progMay_get {n : Nat} {z : Nat → Int} (h : progMay n z = true) : progTo z n n = true ∧ n ≤ 16 := by
  simp only [progMay, Bool.and_eq_true, decide_eq_true_eq] at h
  exact h
theorem progMay_mk {n : Nat} {z : Nat → Int} (h : progTo z n n = true) (h' : n ≤ 16) : progMay n z = true := by rw [progMay, h, decide_eq_true h']; rfl
theorem progMay_no {n : Nat} {z : Nat → Int} (i : Nat) (hi : i < n) (h : (instMay (instAt z i) && !badJump z n i) = false) : progMay n z = false := by rw [progMay, progTo_no i hi h]; rfl
theorem progMay_long {n : Nat} {z : Nat → Int} (h : 16 < n) : progMay n z = false := by rw [progMay, decide_eq_false (by omega), Bool.and_false]
end Go.Proofs.YtnjognmnbpcaaaaGreat
namespace Go.Proofs.YtnjognmnbpcaaaaGreat
open Go.RowKit
theorem mask (k : Nat) (hk : k < 63) (n : Int) : bits .and .i64 n ((2 ^ k - 1 : Nat) : Int) = n % ((2 ^ k : Nat) : Int) := by
  have hp : (2 ^ k : Nat) ≤ 2 ^ 62 := Nat.pow_le_pow_right (by decide) (by omega)
  have hp0 : 0 < (2 ^ k : Nat) := Nat.pow_pos (by decide)
  have h2 : (BitVec.ofInt 64 ((2 ^ k - 1 : Nat) : Int)).toNat = 2 ^ k - 1 := by
    rw [BitVec.ofInt_natCast, BitVec.toNat_ofNat]; exact Nat.mod_eq_of_lt (by omega)
  have h1 : ((BitVec.ofInt 64 n).toNat : Int) = n % (2 ^ 64 : Nat) := by
    rw [BitVec.toNat_ofInt]; exact Int.toNat_of_nonneg (Int.emod_nonneg _ (by decide))
  show IntKind.i64.wrap ((BitVec.ofInt 64 n &&& BitVec.ofInt 64 ((2 ^ k - 1 : Nat) : Int)).toNat : Int) = _
  rw [BitVec.toNat_and, h2, Nat.and_two_pow_sub_one_eq_mod]
  have hd : ((2 ^ k : Nat) : Int) ∣ ((2 ^ 64 : Nat) : Int) := Int.natCast_dvd_natCast.mpr (Nat.pow_dvd_pow 2 (by omega))
  have e : (((BitVec.ofInt 64 n).toNat % 2 ^ k : Nat) : Int) = n % ((2 ^ k : Nat) : Int) := by
    rw [Int.natCast_emod, h1]
    exact Int.emod_emod_of_dvd n hd
  rw [e]
  have b0 := Int.emod_nonneg n (b := ((2 ^ k : Nat) : Int)) (by omega)
  have b1 := Int.emod_lt_of_pos n (b := ((2 ^ k : Nat) : Int)) (by omega)
  have b2 : ((2 ^ k : Nat) : Int) ≤ 4611686018427387904 := by
    have : ((2 ^ k : Nat) : Int) ≤ ((2 ^ 62 : Nat) : Int) := Int.ofNat_le.mpr hp
    simpa using this
  simp only [IntKind.wrap, IntKind.bits, IntKind.signed]
  generalize n % ((2 ^ k : Nat) : Int) = r at *
  generalize ((2 ^ k : Nat) : Int) = q at *
  simp
  omega
theorem mask1 (n : Int) : bits .and .i64 n 1 = n % 2 := mask 1 (by decide) n
theorem mask3 (n : Int) : bits .and .i64 n 3 = n % 4 := mask 2 (by decide) n
theorem mask255 (n : Int) : bits .and .i64 n 255 = n % 256 := mask 8 (by decide) n
theorem mask1023 (n : Int) : bits .and .i64 n 1023 = n % 1024 := mask 10 (by decide) n
/-- One of the four labels. -/
def Lab (x : Int) : Prop := 0 ≤ x ∧ x < 4
theorem lab_cases {x : Int} (h : Lab x) : x = 0 ∨ x = 1 ∨ x = 2 ∨ x = 3 := by
  obtain ⟨a, b⟩ := h
  omega
theorem or_assoc {x y z : Int} (hx : Lab x) (hy : Lab y) (hz : Lab z) : (bits .or .i64 (bits .or .i64 x y) z == bits .or .i64 x (bits .or .i64 y z)) = true := by
  rcases lab_cases hx with rfl | rfl | rfl | rfl <;> rcases lab_cases hy with rfl | rfl | rfl | rfl <;> rcases lab_cases hz with rfl | rfl | rfl | rfl <;> decide
end Go.Proofs.YtnjognmnbpcaaaaGreat
namespace Go.Proofs.YtnjognmnbpcaaaaGreat
open Go.RowKit
/-- No label. -/
def NoLab (x : Int) : Prop := x < 0 ∨ 4 ≤ x
theorem may_yes (a : Int) (h : Lab a) (w : World) :
    Calls Tryz.prog 121 #[.int .i64 a] w fun e w' => e = .returned (.bool true) ∧ w = w' := by
  obtain ⟨h0, h1⟩ := h
  go_enter Tryz.func121, Tryz.ntmps121
  go_wp2
  go_ret
  exact ⟨rfl, rfl⟩
theorem may_no (a : Int) (h : NoLab a) (w : World) :
    Calls Tryz.prog 121 #[.int .i64 a] w fun e w' => e = .returned (.bool false) ∧ w = w' := by
  rcases h with h | h
  · go_enter Tryz.func121, Tryz.ntmps121
    go_wp2
    go_ret
    exact ⟨rfl, rfl⟩
  · have h0 : 0 ≤ a := by omega
    have h2 : ¬ a < 4 := by omega
    go_enter Tryz.func121, Tryz.ntmps121
    go_wp2
    go_ret
    exact ⟨rfl, rfl⟩
theorem below_yes (a b : Int) (ha : Lab a) (hb : Lab b) (w : World) :
    Calls Tryz.prog 140 #[.int .i64 a, .int .i64 b] w fun e w' => e = .returned (.tuple #[.bool (bits .andNot .i64 a b == 0), .int .i64 0]) ∧ w = w' := by
  go_enter Tryz.func140, Tryz.ntmps140
  go_wp2_with (go_at_call 121; refine (may_yes _ (by assumption) _).mono ?_; rintro e w' ⟨rfl, rfl⟩)
  go_ret2
  exact ⟨rfl, rfl⟩
theorem below_no1 (a b : Int) (ha : NoLab a) (w : World) :
    Calls Tryz.prog 140 #[.int .i64 a, .int .i64 b] w fun e w' => e = .returned (.tuple #[.bool false, .int .i64 100]) ∧ w = w' := by
  go_enter Tryz.func140, Tryz.ntmps140
  go_wp2_with (go_at_call 121; refine (may_no _ (by assumption) _).mono ?_; rintro e w' ⟨rfl, rfl⟩)
  go_ret2
  exact ⟨rfl, rfl⟩
theorem below_no2 (a b : Int) (ha : Lab a) (hb : NoLab b) (w : World) :
    Calls Tryz.prog 140 #[.int .i64 a, .int .i64 b] w fun e w' => e = .returned (.tuple #[.bool false, .int .i64 100]) ∧ w = w' := by
  go_enter Tryz.func140, Tryz.ntmps140
  go_wp2_with (first | (go_at_call 121; refine (may_yes _ (by assumption) _).mono ?_; rintro e w' ⟨rfl, rfl⟩) | (go_at_call 121; refine (may_no _ (by assumption) _).mono ?_; rintro e w' ⟨rfl, rfl⟩))
  go_ret2
  exact ⟨rfl, rfl⟩
theorem rmay_yes (a : Int) (h : Lab a) (w : World) :
    Calls Tryz.prog 79 #[.int .i64 a] w fun e w' => e = .returned (.bool true) ∧ w = w' := by
  obtain ⟨h0, h1⟩ := h
  have h2 : a ≤ 3 := by omega
  go_enter Tryz.func79, Tryz.ntmps79
  go_wp2
  go_ret
  exact ⟨rfl, rfl⟩
theorem rmay_no (a : Int) (h : NoLab a) (w : World) :
    Calls Tryz.prog 79 #[.int .i64 a] w fun e w' => e = .returned (.bool false) ∧ w = w' := by
  rcases h with h | h
  · go_enter Tryz.func79, Tryz.ntmps79
    go_wp2
    go_ret
    exact ⟨rfl, rfl⟩
  · have h0 : 0 ≤ a := by omega
    have h2 : ¬ a ≤ 3 := by omega
    go_enter Tryz.func79, Tryz.ntmps79
    go_wp2
    go_ret
    exact ⟨rfl, rfl⟩
end Go.Proofs.YtnjognmnbpcaaaaGreat
namespace Go.Proofs.YtnjognmnbpcaaaaGreat
open Go.RowKit
theorem noLab_of {x : Int} (h : ¬ Lab x) : NoLab x := by
  unfold Lab at h
  unfold NoLab
  omega
theorem not_lab {x : Int} (h : NoLab x) : ¬ Lab x := by
  unfold Lab
  unfold NoLab at h
  omega
/-- May's answer. -/
def mayV (a : Int) : Bool := decide (0 ≤ a ∧ a < 4)
/-- The number of the error of Join and of Below. -/
def labE (a b : Int) : Int := if (0 ≤ a ∧ a < 4) ∧ (0 ≤ b ∧ b < 4) then 0 else 100
/-- Below's answer. -/
def belowV (a b : Int) : Bool := if (0 ≤ a ∧ a < 4) ∧ (0 ≤ b ∧ b < 4) then bits .andNot .i64 a b == 0 else false
theorem belowV_yes {a b : Int} (ha : Lab a) (hb : Lab b) : belowV a b = (bits .andNot .i64 a b == 0) := if_pos ⟨ha, hb⟩
theorem belowV_no1 {a b : Int} (ha : NoLab a) : belowV a b = false := if_neg fun h => not_lab ha h.1
theorem belowV_no2 {a b : Int} (hb : NoLab b) : belowV a b = false := if_neg fun h => not_lab hb h.2
theorem mayV_no {a : Int} (ha : NoLab a) : mayV a = false := decide_eq_false (not_lab ha)
theorem may_any (a : Int) (w : World) :
    Calls Tryz.prog 121 #[.int .i64 a] w fun e w' => e = .returned (.bool (mayV a)) ∧ w = w' := by
  unfold mayV
  by_cases h : 0 ≤ a ∧ a < 4
  · rw [decide_eq_true h]
    exact may_yes a h w
  · rw [decide_eq_false h]
    exact may_no a (noLab_of h) w
theorem rmay_any (a : Int) (w : World) :
    Calls Tryz.prog 79 #[.int .i64 a] w fun e w' => e = .returned (.bool (mayV a)) ∧ w = w' := by
  unfold mayV
  by_cases h : 0 ≤ a ∧ a < 4
  · rw [decide_eq_true h]
    exact rmay_yes a h w
  · rw [decide_eq_false h]
    exact rmay_no a (noLab_of h) w
theorem below_any (a b : Int) (w : World) :
    Calls Tryz.prog 140 #[.int .i64 a, .int .i64 b] w fun e w' => e = .returned (.tuple #[.bool (belowV a b), .int .i64 (labE a b)]) ∧ w = w' := by
  unfold belowV labE
  by_cases h : 0 ≤ a ∧ a < 4
  · by_cases k : 0 ≤ b ∧ b < 4
    · rw [if_pos ⟨h, k⟩, if_pos ⟨h, k⟩]
      exact below_yes a b h k w
    · rw [if_neg fun x => k x.2, if_neg fun x => k x.2]
      exact below_no2 a b h (noLab_of k) w
  · rw [if_neg fun x => h x.1, if_neg fun x => h x.1]
    exact below_no1 a b (noLab_of h) w
end Go.Proofs.YtnjognmnbpcaaaaGreat
namespace Go.Proofs.YtnjognmnbpcaaaaGreat
open Go.RowKit
theorem mayV_up (l : Int) : mayV l = upToV l 3 := decide_eq_decide.2 (by omega)
end Go.Proofs.YtnjognmnbpcaaaaGreat
namespace Go.Proofs.YtnjognmnbpcaaaaGreat
open Go.RowKit
/-- May it be a Start? -/
def startMay (id l c : Int) (n : Nat) (z : Nat → Int) : Bool := upToV id 254 && (belowV l c && progMay n z)
def startA (id l c : Int) (p : Value) : Value := .agg #[.int .i64 id, .int .i64 l, .int .i64 c, p]
def startL (id l c : Int) (p : Value) : List Value := [.int .i64 id, .int .i64 l, .int .i64 c, p]
def sessA (i : Nat → Int) (p r t : Value) : Value := .agg #[.int .i64 (i 0), .int .i64 (i 1), .int .i64 (i 2), p, .int .i64 (i 3), .int .i64 (i 4), .int .i64 (i 5), .int .i64 (i 6), .int .i64 (i 7), .int .i64 (i 8), r, t, .int .i64 (i 9), .int .i64 (i 10), .int .i64 (i 11), .int .i64 (i 12), .int .i64 (i 13)]
def sessL (i : Nat → Int) (p r t : Value) : List Value := [.int .i64 (i 0), .int .i64 (i 1), .int .i64 (i 2), p, .int .i64 (i 3), .int .i64 (i 4), .int .i64 (i 5), .int .i64 (i 6), .int .i64 (i 7), .int .i64 (i 8), r, t, .int .i64 (i 9), .int .i64 (i 10), .int .i64 (i 11), .int .i64 (i 12), .int .i64 (i 13)]
/-- A session's cells, each. -/
theorem Blk.sess {w : World} {b : Nat} {i : Nat → Int} {p r t : Value} (h : Blk w b (sessL i p r t)) :
    w.cell? ⟨b, 0, none⟩ = some (.int .i64 (i 0)) ∧ w.cell? ⟨b, 1, none⟩ = some (.int .i64 (i 1)) ∧ w.cell? ⟨b, 2, none⟩ = some (.int .i64 (i 2)) ∧ w.cell? ⟨b, 3, none⟩ = some p ∧ w.cell? ⟨b, 4, none⟩ = some (.int .i64 (i 3)) ∧ w.cell? ⟨b, 5, none⟩ = some (.int .i64 (i 4)) ∧ w.cell? ⟨b, 6, none⟩ = some (.int .i64 (i 5)) ∧ w.cell? ⟨b, 7, none⟩ = some (.int .i64 (i 6)) ∧ w.cell? ⟨b, 8, none⟩ = some (.int .i64 (i 7)) ∧ w.cell? ⟨b, 9, none⟩ = some (.int .i64 (i 8)) ∧ w.cell? ⟨b, 10, none⟩ = some r ∧ w.cell? ⟨b, 11, none⟩ = some t ∧ w.cell? ⟨b, 12, none⟩ = some (.int .i64 (i 9)) ∧ w.cell? ⟨b, 13, none⟩ = some (.int .i64 (i 10)) ∧ w.cell? ⟨b, 14, none⟩ = some (.int .i64 (i 11)) ∧ w.cell? ⟨b, 15, none⟩ = some (.int .i64 (i 12)) ∧ w.cell? ⟨b, 16, none⟩ = some (.int .i64 (i 13)) :=
  ⟨h.cell 0 _ rfl, h.cell 1 _ rfl, h.cell 2 _ rfl, h.cell 3 _ rfl, h.cell 4 _ rfl, h.cell 5 _ rfl, h.cell 6 _ rfl, h.cell 7 _ rfl, h.cell 8 _ rfl, h.cell 9 _ rfl, h.cell 10 _ rfl, h.cell 11 _ rfl, h.cell 12 _ rfl, h.cell 13 _ rfl, h.cell 14 _ rfl, h.cell 15 _ rfl, h.cell 16 _ rfl⟩
theorem Blk.start {w : World} {b : Nat} {id l c : Int} {p : Value} (h : Blk w b (startL id l c p)) :
    w.cell? ⟨b, 0, none⟩ = some (.int .i64 id) ∧ w.cell? ⟨b, 1, none⟩ = some (.int .i64 l) ∧ w.cell? ⟨b, 2, none⟩ = some (.int .i64 c) ∧ w.cell? ⟨b, 3, none⟩ = some p :=
  ⟨h.cell 0 _ rfl, h.cell 1 _ rfl, h.cell 2 _ rfl, h.cell 3 _ rfl⟩
end Go.Proofs.YtnjognmnbpcaaaaGreat
namespace Go.Proofs.YtnjognmnbpcaaaaGreat
open Go.RowKit
theorem hide {p : Prop} (h : p) : Hid p := h
theorem unhide {p : Prop} (h : Hid p) : p := h
theorem ret_bool {a b : Bool} (h : a = b) : Ending.returned (.bool a) = .returned (.bool b) := by rw [h]
theorem ret_int {k : IntKind} {a b : Int} (h : a = b) : Ending.returned (.int k a) = .returned (.int k b) := by rw [h]
theorem ret_bool_int {k : IntKind} {a b : Bool} {c d : Int} (h : a = b) (h' : c = d) : Ending.returned (.tuple #[.bool a, .int k c]) = .returned (.tuple #[.bool b, .int k d]) := by rw [h, h']
theorem ret_int_bool {k : IntKind} {a b : Int} {c d : Bool} (h : a = b) (h' : c = d) : Ending.returned (.tuple #[.int k a, .bool c]) = .returned (.tuple #[.int k b, .bool d]) := by rw [h, h']
/-- A contract of a call that turns nothing, the other way round. -/
theorem flip {P : Program} {f : FuncId} {args : Array Value} {w : World} {v : Value} (h : Calls P f args w fun e w' => e = .returned v ∧ w = w') : Calls P f args w fun e w' => e = .returned v ∧ w' = w :=
  h.mono fun _ _ ⟨he, hm⟩ => ⟨he, hm.symm⟩
theorem drewN_on {w wr : World} (h : ∃ q, wr = w.drewN q) (k : Nat) : ∃ q, wr.drewN k = w.drewN q := by
  obtain ⟨q, rfl⟩ := h
  exact ⟨q + k, World.drewN_drewN ..⟩
/-- The first n cells from the address on hold f 0, f 1, ..; they lie in a block that is there. Of no cell nothing is said of the address. -/
def Row (w : World) (a : Option Addr) (n : Nat) (f : Nat → Value) : Prop :=
  ∀ i, i < n → ∃ b off, a = some ⟨b, off, none⟩ ∧ b < w.heap.size ∧ w.cell? ⟨b, off + i, none⟩ = some (f i)
theorem row_zero (w : World) (a : Option Addr) (f : Nat → Value) : Row w a 0 f := fun _ h => absurd h (Nat.not_lt_zero _)
theorem Row.below {w w' : World} {B : Nat} {a : Option Addr} {n : Nat} {f : Nat → Value} (h : Row w a n f) (hb : Below B w w') (hB : w.heap.size ≤ B) : Row w' a n f := by
  intro i hi
  obtain ⟨b, off, rfl, hlt, hc⟩ := h i hi
  exact ⟨b, off, rfl, Nat.lt_of_lt_of_le hlt hb.size, (hb.cell (p := ⟨b, off + i, .none⟩) (by exact Nat.lt_of_lt_of_le hlt hB)).trans hc⟩
theorem Row.drewN {w : World} {a : Option Addr} {n : Nat} {f : Nat → Value} (h : Row w a n f) (k : Nat) : Row (w.drewN k) a n f := h
theorem Row.congr {w : World} {a : Option Addr} {n : Nat} {f g : Nat → Value} (h : Row w a n f) (hfg : ∀ i, i < n → f i = g i) : Row w a n g := by
  intro i hi
  obtain ⟨b, off, e, hlt, hc⟩ := h i hi
  exact ⟨b, off, e, hlt, by rw [← hfg i hi]; exact hc⟩
theorem Row.less {w : World} {a : Option Addr} {n m : Nat} {f : Nat → Value} (h : Row w a n f) (hm : m ≤ n) : Row w a m f := fun i hi => h i (Nat.lt_of_lt_of_le hi hm)
/-- What came in, opened. -/
theorem row_cells {w : World} {x : Addr} {n : Nat} {f : Nat → Value} (h : ∀ i, i < n → w.cell? (x.add i) = some (f i)) : Row w (some x) n f := by
  by_cases hn : n = 0
  · subst hn; exact row_zero _ _ _
  · obtain ⟨b, off, spot⟩ := x
    have hspot : spot = .none := by simpa [Addr.add] using World.cell?_spot (h 0 (by omega))
    subst hspot
    intro i hi
    have hc := h i hi
    rw [Go.WideShapes.add_plain] at hc
    exact ⟨b, off, rfl, World.block_lt_of_cell? w _ hc, hc⟩
/-- The block that an append onto what a call owns may write is one of the call's own. -/
theorem owns_block {w : World} {base : Nat} {e : TypeId} {size : Nat} {v : Value} {n : Nat} {xs : List Value} (h : w.ownsRow base e size v n xs) : ∀ k, v.ownBlock = some k → base ≤ k := by
  intro k hk
  rcases h.2 with ⟨rfl, _⟩ | ⟨g, cap, cur, rfl, hg, _⟩
  · simp [Value.ownBlock] at hk
  · simp [Value.ownBlock] at hk
    omega
end Go.Proofs.YtnjognmnbpcaaaaGreat
namespace Go.Proofs.YtnjognmnbpcaaaaGreat
open Go.RowKit
/-- The first m of a function's values. -/
def rowL (f : Nat → Value) (m : Nat) : List Value := (List.range m).map f
theorem rowL_len (f : Nat → Value) (m : Nat) : (rowL f m).length = m := by simp [rowL]
theorem rowL_get {f : Nat → Value} {m i : Nat} (h : i < m) : (rowL f m)[i]? = some (f i) := by simp [rowL, h]
theorem rowL_none {f : Nat → Value} {m i : Nat} (h : m ≤ i) : (rowL f m)[i]? = none := List.getElem?_eq_none (by rw [rowL_len]; exact h)
theorem rowL_one {f : Nat → Value} {m : Nat} (h : ∀ i, i < m → (f i).oneCell' = true) : ∀ u ∈ rowL f m, u.oneCell' = true := by
  intro u hu
  simp only [rowL, List.mem_map, List.mem_range] at hu
  obtain ⟨i, hi, rfl⟩ := hu
  exact h i hi
theorem rowL_add (f : Nat → Value) (m k : Nat) : rowL f (m + k) = rowL f m ++ rowL (fun i => f (m + i)) k := by
  apply List.ext_getElem?
  intro i
  by_cases h : i < m
  · rw [rowL_get (by omega), List.getElem?_append_left (by rw [rowL_len]; exact h), rowL_get h]
  · rw [List.getElem?_append_right (by rw [rowL_len]; omega), rowL_len]
    by_cases h2 : i < m + k
    · rw [rowL_get h2, rowL_get (by omega), show m + (i - m) = i by omega]
    · rw [rowL_none (by omega), rowL_none (by omega)]
theorem rowL_congr {f g : Nat → Value} {m : Nat} (h : ∀ i, i < m → f i = g i) : rowL f m = rowL g m := by
  apply List.ext_getElem?
  intro i
  by_cases hi : i < m
  · rw [rowL_get hi, rowL_get hi, h i hi]
  · rw [rowL_none (by omega), rowL_none (by omega)]
/-- A row's cells, as the law of append asks for them. -/
theorem Row.news {w : World} {ad : Addr} {n : Nat} {f : Nat → Value} (h : Row w (some ad) n f) : ∀ j u, (rowL f n)[j]? = some u → w.cell? (ad.add j) = some u := by
  intro j u hu
  have hj : j < n := by
    have := (List.getElem?_eq_some_iff.1 hu).1
    rwa [rowL_len] at this
  rw [rowL_get hj] at hu
  obtain ⟨b, off, e, _, hc⟩ := h j hj
  obtain rfl := Option.some.inj e
  obtain rfl := Option.some.inj hu
  have hadd : (⟨b, off, none⟩ : Addr).add j = ⟨b, off + j, none⟩ := by unfold Addr.add; split <;> simp_all
  rw [hadd]
  exact hc
/-- Block b's first m cells. -/
def Own (w : World) (b m : Nat) (f : Nat → Value) : Prop := ∃ l, Blk w b l ∧ ∀ i, i < m → l[i]? = some (f i)
section
variable {w w' : World} {b m : Nat} {f g : Nat → Value}
theorem Own.lt (h : Own w b m f) : b < w.heap.size := h.choose_spec.1.lt
theorem Own.row (h : Own w b m f) : Row w (some ⟨b, 0, none⟩) m f := by
  obtain ⟨l, hl, hf⟩ := h
  exact fun i hi => ⟨b, 0, rfl, hl.lt, by rw [Nat.zero_add]; exact hl.cell i _ (hf i hi)⟩
theorem Own.alloc (h : Own w b m f) (o : Obj) : Own (w.alloc o) b m f := by
  obtain ⟨l, hl, hf⟩ := h
  exact ⟨l, hl.alloc o, hf⟩
theorem Own.below {B : Nat} (h : Own w b m f) (hb : Below B w w') (hB : b < B) : Own w' b m f := by
  obtain ⟨l, hl, hf⟩ := h
  exact ⟨l, hl.below hb hB, hf⟩
theorem Own.on (h : Own w b m f) (hb : Below w.heap.size w w') : Own w' b m f := h.below hb h.lt
theorem Own.far (h : Own w b m f) {a : Addr} (v : Value) (hb : b ≠ a.block) : Own (w.setCell a v) b m f := by
  obtain ⟨l, hl, hf⟩ := h
  exact ⟨l, hl.far v hb, hf⟩
theorem Own.drawn (h : Own w b m f) (n : Nat) : Own (w.drewN n) b m f := h
theorem Own.drew (h : Own w b m f) : Own w.drew b m f := h
theorem Own.cell (h : Own w b m f) {i : Nat} (hi : i < m) : w.cell? ⟨b, i, none⟩ = some (f i) := by
  obtain ⟨l, hl, hf⟩ := h
  exact hl.cell i _ (hf i hi)
theorem Own.frozen (h : Own w b m f) (i : Nat) : w.frozen? ⟨b, i, none⟩ = false := by
  obtain ⟨l, hl, _⟩ := h
  exact hl.frozen i
theorem Own.congr (h : Own w b m f) (hfg : ∀ i, i < m → f i = g i) : Own w b m g := by
  obtain ⟨l, hl, hf⟩ := h
  exact ⟨l, hl, fun i hi => by rw [hf i hi, hfg i hi]⟩
theorem Own.less (h : Own w b m f) {k : Nat} (hk : k ≤ m) : Own w b k f := by
  obtain ⟨l, hl, hf⟩ := h
  exact ⟨l, hl, fun i hi => hf i (by omega)⟩
theorem Own.set (h : Own w b m f) (i : Nat) (v : Value) : Own (w.setCell ⟨b, i, none⟩ v) b m (fun j => if j = i then v else f j) := by
  obtain ⟨l, hl, hf⟩ := h
  refine ⟨l.set i v, hl.set i v, fun j hj => ?_⟩
  rw [List.getElem?_set]
  have hlen : j < l.length := (List.getElem?_eq_some_iff.1 (hf j hj)).1
  by_cases e : i = j
  · subst e; simp [hlen]
  · simp only [if_neg e, if_neg (Ne.symm e)]
    exact hf j hj
end
/-- What a law of append leaves: nothing, or a block of the call's own. -/
theorem own_of_owns {w : World} {base : Nat} {e : TypeId} {k n : Nat} {v : Value} {f : Nat → Value} (h : w.ownsRow base e k v n (rowL f (n * k))) :
    (v = .slice none 0 0 ∧ n = 0) ∨ ∃ g cap, v = .slice (some ⟨g, 0, none⟩) n cap ∧ base ≤ g ∧ n ≤ cap ∧ cap ≤ maxLen ∧ Own w g (n * k) f := by
  rcases h.2 with h2 | ⟨g, cap, cur, hv, hg, hh, hn, hm, _, ht⟩
  · exact .inl h2
  · refine .inr ⟨g, cap, hv, hg, hn, hm, cur.toList, ⟨e, by simpa using hh⟩, fun i hi => ?_⟩
    have h3 : (cur.toList.take (n * k))[i]? = some (f i) := by rw [ht]; exact rowL_get hi
    rw [List.getElem?_take, if_pos hi] at h3
    exact h3
/-- The cells of a row of numbers. -/
def intF (z : Nat → Int) (i : Nat) : Value := .int .i64 (z i)
end Go.Proofs.YtnjognmnbpcaaaaGreat
namespace Go.Proofs.YtnjognmnbpcaaaaGreat
open Go.RowKit
/-- A list of numbers, just laid. -/
def lz (l : List Int) (i : Nat) : Int := l.getD i 0
end Go.Proofs.YtnjognmnbpcaaaaGreat
namespace Go.Proofs.YtnjognmnbpcaaaaGreat
/-- A slice. -/
structure Sl where
  a : Option Addr
  n : Nat
  c : Nat
end Go.Proofs.YtnjognmnbpcaaaaGreat
namespace Go.Proofs.YtnjognmnbpcaaaaGreat
open Go.RowKit
/-- Nothing but the blocks from B up to C has turned. -/
structure Touch (B C : Nat) (w w' : World) : Prop where
  os : w'.os = w.os
  tape : w'.tape = w.tape
  output : w'.output = w.output
  size : w.heap.size ≤ w'.heap.size
  block : ∀ k, k < B ∨ C ≤ k → k < w.heap.size → w'.heap[k]? = w.heap[k]?
section
variable {B C : Nat} {w w' w'' : World}
theorem Touch.refl (B C : Nat) (w : World) : Touch B C w w := ⟨rfl, rfl, rfl, Nat.le_refl _, fun _ _ _ => rfl⟩
theorem Touch.trans (h : Touch B C w w') (k : Touch B C w' w'') : Touch B C w w'' :=
  ⟨k.os.trans h.os, k.tape.trans h.tape, k.output.trans h.output, Nat.le_trans h.size k.size, fun i hi hl => (k.block i hi (by have := h.size; omega)).trans (h.block i hi hl)⟩
theorem Touch.setCell (h : Touch B C w w') {a : Addr} (hB : B ≤ a.block) (hC : a.block < C) (v : Value) : Touch B C w (w'.setCell a v) :=
  h.trans ⟨rfl, rfl, rfl, by simp [World.setCell], fun k hk _ => Below.heap_setCell _ _ _ _ (by omega)⟩
theorem Touch.alloc (h : Touch B C w w') (o : Obj) : Touch B C w (w'.alloc o) :=
  h.trans ⟨rfl, rfl, rfl, by simp, fun k _ hl => Below.heap_alloc _ _ _ hl⟩
theorem Touch.below (h : Touch B C w w') (hB : B ≤ w.heap.size) : Below B w w' := ⟨h.os, h.tape, h.output, h.size, fun k hk => h.block k (.inl hk) (by omega)⟩
theorem Touch.mono {B' C' : Nat} (h : Touch B C w w') (hB : B' ≤ B) (hC : C ≤ C') : Touch B' C' w w' := ⟨h.os, h.tape, h.output, h.size, fun k hk => h.block k (by omega)⟩
theorem Blk.touch {b : Nat} {l : List Value} (h : Blk w b l) (ht : Touch B C w w') (hb : b < B ∨ C ≤ b) : Blk w' b l := by
  have := h.lt
  obtain ⟨t, h⟩ := h
  exact ⟨t, by rw [ht.block b hb this]; exact h⟩
theorem Own.touch {b m : Nat} {f : Nat → Value} (h : Own w b m f) (ht : Touch B C w w') (hb : b < B ∨ C ≤ b) : Own w' b m f := by
  obtain ⟨l, hl, hf⟩ := h
  exact ⟨l, hl.touch ht hb, hf⟩
theorem Row.touch {a : Option Addr} {n : Nat} {f : Nat → Value} (h : Row w a n f) (ht : Touch B C w w') (hb : ∀ b o, a = some ⟨b, o, none⟩ → b < B ∨ C ≤ b) : Row w' a n f := by
  intro i hi
  obtain ⟨b, off, e, hlt, hc⟩ := h i hi
  refine ⟨b, off, e, Nat.lt_of_lt_of_le hlt ht.size, ?_⟩
  rw [← hc]
  exact World.cell?_of_block (w := w) (a := ⟨b, off + i, .none⟩) (ht.block b (hb b off e) hlt)
end
end Go.Proofs.YtnjognmnbpcaaaaGreat
namespace Go.Proofs.YtnjognmnbpcaaaaGreat
open Go.RowKit
/-- It stays where only new memory is written. -/
def Stays (S : World → Prop) : Prop := ∀ W W', S W → Below W.heap.size W W' → S W'
theorem Stays.and {S T : World → Prop} (hS : Stays S) (hT : Stays T) : Stays fun W => S W ∧ T W := fun W W' h b => ⟨hS W W' h.1 b, hT W W' h.2 b⟩
theorem stays_blk (b : Nat) (l : List Value) : Stays fun W => Blk W b l := fun _ _ h b => h.on b
theorem stays_below (w : World) : Stays fun W => Below w.heap.size w W := fun _ _ h b => Below.on h b
end Go.Proofs.YtnjognmnbpcaaaaGreat
namespace Go.Proofs.YtnjognmnbpcaaaaGreat
open Go.RowKit
structure PSess where
  num : List Int
  prog : List Int
  reads : List Int
  writes : List Int
structure PMach where
  words : List (List Int)
  clocks : List Int
  ceil : Int
  sess : List PSess
  trace : List Int
def noSess : PSess := ⟨[], [], [], []⟩
/-- The machine beside an error. -/
def noMach : PMach := ⟨[[], [], [], []], [0, 0, 0, 0], 0, [], []⟩
def PMach.lv (M : PMach) (g : Nat) : List Int := M.words.getD g []
def PMach.at (M : PMach) (i : Nat) : PSess := M.sess.getD i noSess
def Sl.v (s : Sl) : Value := .slice s.a s.n s.c
/-- Where a session's lists lie. -/
structure SesM where
  p : Sl
  r : Sl
  t : Sl
/-- Where a machine's lists lie. -/
structure MacM where
  w : Nat → Sl
  s : Sl
  q : Nat → SesM
  e : Sl
def noSl : Sl := ⟨none, 0, 0⟩
def noMac : MacM := ⟨fun _ => noSl, noSl, fun _ => ⟨noSl, noSl, noSl⟩, noSl⟩
/-- The slice's cells hold the list's numbers, k an element. -/
def SlIs (W : World) (k : Nat) (s : Sl) (L : List Int) : Prop :=
  L.length = s.n * k ∧ (s.n * (8 * k) ≤ 140737488351232 ∧ s.n ≤ s.c ∧ (s.a = none → s.n = 0 ∧ s.c = 0)) ∧ Row W s.a (s.n * k) fun i => .int .i64 (lz L i)
def sessOf (q : SesM) (x : PSess) : List Value := sessL (lz x.num) (.slice q.p.a q.p.n q.p.c) (.slice q.r.a q.r.n q.r.c) (.slice q.t.a q.t.n q.t.c)
def SessIs (W : World) (q : SesM) (x : PSess) : Prop := x.num.length = 14 ∧ SlIs W 4 q.p x.prog ∧ SlIs W 3 q.r x.reads ∧ SlIs W 3 q.t x.writes
/-- A cell of the sessions' list. -/
def sessCell (q : Nat → SesM) (X : List PSess) (j : Nat) : Value := (sessOf (q (j / 17)) (X.getD (j / 17) noSess)).getD (j % 17) undef
def SesIs (W : World) (s : Sl) (q : Nat → SesM) (X : List PSess) : Prop :=
  X.length = s.n ∧ (s.n * 184 ≤ 140737488351232 ∧ s.n ≤ s.c ∧ (s.a = none → s.n = 0 ∧ s.c = 0)) ∧ Row W s.a (s.n * 17) (sessCell q X) ∧ ∀ i, i < s.n → SessIs W (q i) (X.getD i noSess)
def macL (s : Nat → Sl) (c : Nat → Int) (m : Int) (ss ts : Value) : List Value := [.slice (s 0).a (s 0).n (s 0).c, .slice (s 1).a (s 1).n (s 1).c, .slice (s 2).a (s 2).n (s 2).c, .slice (s 3).a (s 3).n (s 3).c, .int .i64 (c 0), .int .i64 (c 1), .int .i64 (c 2), .int .i64 (c 3), .int .i64 m, ss, ts]
def macA (s : Nat → Sl) (c : Nat → Int) (m : Int) (ss ts : Value) : Value := .agg #[.slice (s 0).a (s 0).n (s 0).c, .slice (s 1).a (s 1).n (s 1).c, .slice (s 2).a (s 2).n (s 2).c, .slice (s 3).a (s 3).n (s 3).c, .int .i64 (c 0), .int .i64 (c 1), .int .i64 (c 2), .int .i64 (c 3), .int .i64 m, ss, ts]
def machL (A : MacM) (M : PMach) : List Value := macL A.w (lz M.clocks) M.ceil (.slice A.s.a A.s.n A.s.c) (.slice A.e.a A.e.n A.e.c)
def machA (A : MacM) (M : PMach) : Value := macA A.w (lz M.clocks) M.ceil (.slice A.s.a A.s.n A.s.c) (.slice A.e.a A.e.n A.e.c)
theorem Blk.mac {w : World} {b : Nat} {s : Nat → Sl} {c : Nat → Int} {m : Int} {ss ts : Value} (h : Blk w b (macL s c m ss ts)) :
    w.cell? ⟨b, 0, none⟩ = some (.slice (s 0).a (s 0).n (s 0).c) ∧ w.cell? ⟨b, 1, none⟩ = some (.slice (s 1).a (s 1).n (s 1).c) ∧ w.cell? ⟨b, 2, none⟩ = some (.slice (s 2).a (s 2).n (s 2).c) ∧ w.cell? ⟨b, 3, none⟩ = some (.slice (s 3).a (s 3).n (s 3).c) ∧ w.cell? ⟨b, 4, none⟩ = some (.int .i64 (c 0)) ∧ w.cell? ⟨b, 5, none⟩ = some (.int .i64 (c 1)) ∧ w.cell? ⟨b, 6, none⟩ = some (.int .i64 (c 2)) ∧ w.cell? ⟨b, 7, none⟩ = some (.int .i64 (c 3)) ∧ w.cell? ⟨b, 8, none⟩ = some (.int .i64 m) ∧ w.cell? ⟨b, 9, none⟩ = some ss ∧ w.cell? ⟨b, 10, none⟩ = some ts :=
  ⟨h.cell 0 _ rfl, h.cell 1 _ rfl, h.cell 2 _ rfl, h.cell 3 _ rfl, h.cell 4 _ rfl, h.cell 5 _ rfl, h.cell 6 _ rfl, h.cell 7 _ rfl, h.cell 8 _ rfl, h.cell 9 _ rfl, h.cell 10 _ rfl⟩
structure MachIs (W : World) (A : MacM) (M : PMach) : Prop where
  four : M.words.length = 4
  clocks : M.clocks.length = 4
  words : ∀ g, g < 4 → SlIs W 3 (A.w g) (M.lv g)
  sess : SesIs W A.s A.q M.sess
  trace : SlIs W 4 A.e M.trace
theorem SlIs.below {W W' : World} {k : Nat} {s : Sl} {L : List Int} (h : SlIs W k s L) (hb : Below W.heap.size W W') : SlIs W' k s L := ⟨h.1, h.2.1, h.2.2.below hb (Nat.le_refl _)⟩
theorem SessIs.below {W W' : World} {q : SesM} {x : PSess} (h : SessIs W q x) (hb : Below W.heap.size W W') : SessIs W' q x := ⟨h.1, h.2.1.below hb, h.2.2.1.below hb, h.2.2.2.below hb⟩
theorem SesIs.below {W W' : World} {s : Sl} {q : Nat → SesM} {X : List PSess} (h : SesIs W s q X) (hb : Below W.heap.size W W') : SesIs W' s q X := ⟨h.1, h.2.1, h.2.2.1.below hb (Nat.le_refl _), fun i hi => (h.2.2.2 i hi).below hb⟩
theorem MachIs.below {W W' : World} {A : MacM} {M : PMach} (h : MachIs W A M) (hb : Below W.heap.size W W') : MachIs W' A M :=
  ⟨h.four, h.clocks, fun g hg => (h.words g hg).below hb, h.sess.below hb, h.trace.below hb⟩
theorem slIs_none (W : World) (k : Nat) : SlIs W k noSl [] := ⟨by show 0 = 0 * k; omega, ⟨by show 0 * _ ≤ _; omega, Nat.le_refl _, fun _ => ⟨rfl, rfl⟩⟩, by show Row W _ (0 * k) _; rw [Nat.zero_mul]; exact row_zero _ _ _⟩
theorem machIs_none (W : World) : MachIs W noMac noMach :=
  ⟨rfl, rfl, fun g hg => by
    have : noMach.lv g = [] := by
      have : g = 0 ∨ g = 1 ∨ g = 2 ∨ g = 3 := by omega
      rcases this with rfl | rfl | rfl | rfl <;> rfl
    rw [this]; exact slIs_none W 3, ⟨rfl, ⟨by decide, by decide, fun _ => ⟨rfl, rfl⟩⟩, row_zero _ _ _, fun i hi => absurd hi (Nat.not_lt_zero _)⟩, slIs_none W 4⟩
/-- A row of numbers, as a list. -/
theorem lz_map {m : Nat} {z : Nat → Int} {i : Nat} (h : i < m) : lz ((List.range m).map z) i = z i := by simp [lz, List.getD, h]
theorem slIs_of {W : World} {k : Nat} {a : Option Addr} {n c : Nat} {z : Nat → Int} (hf : n * (8 * k) ≤ 140737488351232 ∧ n ≤ c ∧ (a = none → n = 0 ∧ c = 0)) (hr : Row W a (n * k) fun i => .int .i64 (z i)) : SlIs W k ⟨a, n, c⟩ ((List.range (n * k)).map z) :=
  ⟨by simp, hf, hr.congr fun i hi => by rw [lz_map hi]⟩
/-- A session's cells in the list. -/
theorem SesIs.cell {W : World} {s : Sl} {q : Nat → SesM} {X : List PSess} (h : SesIs W s q X) {i j : Nat} (hi : i < s.n) (hj : j < 17) : ∃ b off, s.a = some ⟨b, off, none⟩ ∧ b < W.heap.size ∧ W.cell? ⟨b, off + (i * 17 + j), none⟩ = some ((sessOf (q i) (X.getD i noSess)).getD j undef) := by
  obtain ⟨b, off, e, hb, hc⟩ := h.2.2.1 (i * 17 + j) (by omega)
  refine ⟨b, off, e, hb, hc.trans ?_⟩
  unfold sessCell
  rw [show (i * 17 + j) / 17 = i by omega, show (i * 17 + j) % 17 = j by omega]
end Go.Proofs.YtnjognmnbpcaaaaGreat
namespace Go.Proofs.YtnjognmnbpcaaaaGreat
open Go.RowKit
/-- A world in which nothing that was in w has turned. -/
structure Kin (w : World) where
  at_ : World
  below : Below w.heap.size w at_
/-- There is one: w itself. The walk of a region wants it among the hypotheses. -/
theorem kin_any (w : World) : Nonempty (Kin w) := ⟨⟨w, Below.refl _ _⟩⟩
theorem Kin.cell {w : World} (u : Kin w) (b o : Nat) (h : b < w.heap.size) : u.at_.cell? ⟨b, o, none⟩ = w.cell? ⟨b, o, none⟩ := u.below.cell (p := ⟨b, o, none⟩) h
theorem wp_region_kin {P : Program} {id : Nat} {Q : Exit → Act → World → Prop} {a : Act} {w : World} {l : List Oper} (hm : P.follows .mixedOrders = true) (hB : Region.lexB .any l.toArray = true)
    (h : wpQuiet P l.toArray (fun w' => ∃ u : Kin w, w' = u.at_) (fun a' => ∀ w', (∃ u : Kin w, w' = u.at_) → Q .normal a' w') l a) : (Code.region id l.toArray true).wp P Q a w :=
  wp_region_quiet (C := fun w' => ∃ u : Kin w, w' = u.at_) hm hB ⟨⟨w.drew, (Below.refl _ _).drew⟩, rfl⟩ (by simpa using h)
theorem Calls.kin_of {P : Program} {f : FuncId} {args : Array Value} {w : World} {u : Kin w} {v : Value}
    (h : Calls P f args u.at_ fun e w' => e = .returned v ∧ Below u.at_.heap.size u.at_ w') : Calls P f args u.at_ fun e w'' => e = .returned v ∧ ∃ u' : Kin w, w'' = u'.at_ :=
  h.mono fun _ w' ⟨he, hb⟩ => ⟨he, ⟨w', u.below.trans (hb.mono u.below.size)⟩, rfl⟩
theorem Calls.kin_same {P : Program} {f : FuncId} {args : Array Value} {w : World} {u : Kin w} {v : Value}
    (h : Calls P f args u.at_ fun e w' => e = .returned v ∧ u.at_ = w') : Calls P f args u.at_ fun e w'' => e = .returned v ∧ ∃ u' : Kin w, w'' = u'.at_ :=
  h.mono fun _ _ ⟨he, hm⟩ => ⟨he, u, hm.symm⟩
theorem Blk.kin {w : World} {b : Nat} {l : List Value} (h : Blk w b l) (u : Kin w) : Blk u.at_ b l := h.on u.below
theorem Blk.kin3 {w : World} {b : Nat} {x y z : Value} (h : Blk w b [x, y, z]) : (∀ u : Kin w, u.at_.cell? ⟨b, 0, none⟩ = some x) ∧ (∀ u : Kin w, u.at_.cell? ⟨b, 1, none⟩ = some y) ∧ (∀ u : Kin w, u.at_.cell? ⟨b, 2, none⟩ = some z) :=
  ⟨fun u => (h.kin u).cell 0 _ rfl, fun u => (h.kin u).cell 1 _ rfl, fun u => (h.kin u).cell 2 _ rfl⟩
theorem Blk.kin4 {w : World} {b : Nat} {x y z v : Value} (h : Blk w b [x, y, z, v]) : (∀ u : Kin w, u.at_.cell? ⟨b, 0, none⟩ = some x) ∧ (∀ u : Kin w, u.at_.cell? ⟨b, 1, none⟩ = some y) ∧ (∀ u : Kin w, u.at_.cell? ⟨b, 2, none⟩ = some z) ∧ (∀ u : Kin w, u.at_.cell? ⟨b, 3, none⟩ = some v) :=
  ⟨fun u => (h.kin u).cell 0 _ rfl, fun u => (h.kin u).cell 1 _ rfl, fun u => (h.kin u).cell 2 _ rfl, fun u => (h.kin u).cell 3 _ rfl⟩
end Go.Proofs.YtnjognmnbpcaaaaGreat
namespace Go.Proofs.YtnjognmnbpcaaaaGreat
open Go.RowKit
theorem Blk.range {w : World} {b : Nat} {l : List Value} (h : Blk w b l) : w.rangeAt b 0 l := fun j v hv => by rw [Nat.zero_add]; exact h.cell j v hv
theorem wpList_load_at {P : Program} {ops : Array Oper} {rest : List Oper} {op : Oper} {a : Act} {w : World} {Q : Exit → Act → World → Prop} (ty : TypeId) (x : Operand) (ho : op.op = .load ty x) (hgd : Region.wanted op (yielded ops a.tmps) = true) (b o : Nat) (hx : a.eval x = .pointer (some ⟨b, o, none⟩)) (cs : List Value)
    (hr : (P.underlying ty).any (·.isRow) = true) (hi : (P.info? ty).map (·.size) = some cs.length) (h : w.rangeAt b o cs) (hw : wpList P ops Q rest (a.put op.dst (.agg cs.toArray)) w) : wpList P ops Q (op :: rest) a w := by
  cases hd : P.underlying ty with
  | none => rw [hd] at hr; cases hr
  | some d =>
    rw [hd] at hr
    exact BigFrame.wpList_want hgd fun _ hK => wp_load_mid ty x ho b o hx cs d h hd hr hi (hK _ _ hw)
theorem wpQuiet_load_at {P : Program} {ops : Array Oper} {w : World} {Q : Act → Prop} {a : Act} {o : Oper} {rest : List Oper} (ty : TypeId) (x : Operand) (ho : o.op = .load ty x) (hw : Region.wanted o (yielded ops a.tmps) = true) (b off : Nat) (hx : a.eval x = .pointer (some ⟨b, off, none⟩)) (cs : List Value)
    (hr : (P.underlying ty).any (·.isRow) = true) (hi : (P.info? ty).map (·.size) = some cs.length) (hb : b < w.heap.size) (h : w.rangeAt b off cs)
    (hk : wpQuiet P ops (fun w' => ∃ u : Kin w, w' = u.at_) Q rest (a.put o.dst (.agg cs.toArray))) : wpQuiet P ops (fun w' => ∃ u : Kin w, w' = u.at_) Q (o :: rest) a := by
  refine BigFrame.wpQuiet_want hw fun K hK => ⟨.agg cs.toArray, ?_, hK _ hk⟩
  rintro _ ⟨u, rfl⟩
  cases hd : P.underlying ty with
  | none => rw [hd] at hr; cases hr
  | some d =>
    rw [hd] at hr
    have hru : u.at_.rangeAt b off cs := fun j v hv => (u.cell b _ hb).trans (h j v hv)
    unfold Oper.quietAt execOp
    simp only [ho, hx, Instr.loadAt, Instr.sureAddr, Sem.run_bind, Sem.run_pure, Result.andThen_ok, run_loadVar_mid u.at_ b off ty cs d hru hd hr hi]
    exact ⟨rfl, rfl⟩
end Go.Proofs.YtnjognmnbpcaaaaGreat
namespace Go.Proofs.YtnjognmnbpcaaaaGreat
open Go.RowKit
/-- A list with others laid over it from a place on. -/
def setL (l : List Value) (o : Nat) : List Value → List Value
  | [] => l
  | v :: r => setL (l.set o v) (o + 1) r
theorem setL_take : ∀ (vs l : List Value) (o : Nat), o + vs.length = l.length → setL l o vs = l.take o ++ vs
  | [], l, o, h => by rw [setL, List.append_nil, List.take_of_length_le (by simp at h; omega)]
  | v :: r, l, o, h => by
    have hlt : o < l.length := by simp at h; omega
    rw [setL, setL_take r (l.set o v) (o + 1) (by simp at h ⊢; omega), List.take_add_one]
    rw [List.getElem?_set_self hlt, List.take_set_of_le (Nat.le_refl _)]
    simp
theorem setL_all {vs l : List Value} (h : vs.length = l.length) : setL l 0 vs = vs := by
  rw [setL_take vs l 0 (by omega)]
  rfl
theorem Blk.setCells {b : Nat} : ∀ (vs : List Value) (o : Nat) {w : World} {l : List Value}, Blk w b l → Blk (w.setCells b o vs) b (setL l o vs)
  | [], _, _, _, h => h
  | v :: r, o, _, _, h => Blk.setCells r (o + 1) (h.set o v)
theorem Touch.setCells {b : Nat} : ∀ (vs : List Value) (o : Nat) (w : World), Touch b (b + 1) w (w.setCells b o vs)
  | [], _, w => Touch.refl _ _ w
  | v :: r, o, w => ((Touch.refl b (b + 1) w).setCell (a := ⟨b, o, none⟩) (Nat.le_refl b) (Nat.lt_succ_self b) v).trans (Touch.setCells r (o + 1) _)
theorem size_setCells {b : Nat} : ∀ (vs : List Value) (o : Nat) (w : World), (w.setCells b o vs).heap.size = w.heap.size
  | [], _, _ => rfl
  | v :: r, o, w => by rw [World.setCells, size_setCells r]; exact World.size_setCell ..
theorem wpList_store_all {P : Program} {ops : Array Oper} {rest : List Oper} {op : Oper} {a : Act} {w : World} {Q : Exit → Act → World → Prop} (hgd : Region.wanted op (yielded ops a.tmps) = true) (ty : TypeId) (x y : Operand) (ho : op.op = .store ty x y)
    (b : Nat) (l vs : List Value) (hx : a.eval x = .pointer (some ⟨b, 0, none⟩)) (hy : a.eval y = .agg vs.toArray) (hB : Blk w b l) (hl : vs.length = l.length)
    (hi : (P.info? ty).map (·.size) = some vs.length) (h1 : vs.all (·.oneCell') = true)
    (h : ∀ W, Blk W b vs → Touch b (b + 1) w W → W.heap.size = w.heap.size → wpList P ops Q rest (a.put op.dst undef) W) : wpList P ops Q (op :: rest) a w := by
  refine BigFrame.wpList_want hgd fun _ hK => wp_store_mid ty x y ho b 0 vs.toArray hx hy (fun j hj => ?_) (by simpa using hi) (by simpa using h1) (hK _ _ (h _ ?_ (Touch.setCells _ _ _) (size_setCells _ _ _)))
  · have hj' : j < l.length := by simpa [hl] using hj
    refine ⟨?_, hB.frozen _⟩
    rw [Nat.zero_add, hB.cell j l[j] (List.getElem?_eq_getElem hj')]
    rfl
  · have := Blk.setCells vs 0 hB
    rw [setL_all hl] at this
    simpa using this
end Go.Proofs.YtnjognmnbpcaaaaGreat
namespace Go.Proofs.YtnjognmnbpcaaaaGreat
open Go.RowKit
set_option linter.unusedSimpArgs false
set_option linter.unusedVariables false
/-- A list of operations, not one: a test that costs nothing ('with_reducible refine isList ?_'). -/
theorem isList {P : Program} {ops : Array Oper} {l : List Oper} {a : Act} {w : World} {Q : Exit → Act → World → Prop} (h : wpList P ops Q l a w) : wpList P ops Q l a w := h
/-- One thing that a call holds: the blocks in D, and what is known of them. -/
structure Itm where
  D : Nat → Prop
  S : World → Prop
/-- It hangs on its own blocks alone. -/
def Itm.Loc (x : Itm) : Prop := ∀ W W', x.S W → W.heap.size ≤ W'.heap.size → (∀ k, x.D k → W'.heap[k]? = W.heap[k]?) → x.S W'
/-- Nothing but blocks in D has turned. -/
structure Chg (D : Nat → Prop) (W W' : World) : Prop where
  os : W'.os = W.os
  tape : W'.tape = W.tape
  output : W'.output = W.output
  size : W.heap.size ≤ W'.heap.size
  block : ∀ k, k < W.heap.size → ¬ D k → W'.heap[k]? = W.heap[k]?
section
variable {D : Nat → Prop} {W W' W'' : World}
theorem Chg.refl (D : Nat → Prop) (W : World) : Chg D W W := ⟨rfl, rfl, rfl, Nat.le_refl _, fun _ _ _ => rfl⟩
theorem Chg.trans (h : Chg D W W') (k : Chg D W' W'') : Chg D W W'' :=
  ⟨k.os.trans h.os, k.tape.trans h.tape, k.output.trans h.output, Nat.le_trans h.size k.size, fun i hi hd => (k.block i (by have := h.size; omega) hd).trans (h.block i hi hd)⟩
theorem Chg.mono {D' : Nat → Prop} (h : Chg D W W') (hd : ∀ k, k < W.heap.size → D k → D' k) : Chg D' W W' := ⟨h.os, h.tape, h.output, h.size, fun i hi hn => h.block i hi fun x => hn (hd i hi x)⟩
theorem chg_touch {lo hi : Nat} (h : Touch lo hi W W') : Chg (fun k => lo ≤ k ∧ k < hi) W W' := ⟨h.os, h.tape, h.output, h.size, fun k hk hn => h.block k (by omega) hk⟩
theorem chg_set {b o : Nat} {v : Value} (hd : D b) : Chg D W (W.setCell ⟨b, o, none⟩ v) := ⟨rfl, rfl, rfl, by simp [World.setCell], fun k _ hn => Below.heap_setCell _ _ _ _ fun e => hn (by rw [show k = b from e]; exact hd)⟩
theorem chg_grown {row : Option Nat} (h : W.grownBy W' row) (hd : ∀ k, row = some k → D k) : Chg D W W' := ⟨h.os, h.tape, h.output, h.size, fun k hk hn => h.block k hk fun e => hn (hd k e.symm)⟩
theorem Chg.belowOf {B : Nat} {w0 : World} (h : Chg D W W') (hb : Below B w0 W) (hd : ∀ k, D k → B ≤ k) (hs : B ≤ W.heap.size) : Below B w0 W' :=
  hb.trans ⟨h.os, h.tape, h.output, h.size, fun k hk => h.block k (by omega) fun x => by have := hd k x; omega⟩
end
/-- Where a walk stands: what lay below is as it was; what the call holds: each apart from all others. -/
structure St (w0 W : World) (L : List Itm) : Prop where
  below : Below w0.heap.size w0 W
  here : ∀ (i : Nat) (x : Itm), L[i]? = some x → x.Loc ∧ x.S W ∧ ∀ k, x.D k → w0.heap.size ≤ k ∧ k < W.heap.size
  apart : ∀ (i j : Nat) (x y : Itm), L[i]? = some x → L[j]? = some y → i ≠ j → ∀ k, x.D k → y.D k → False
def blkI (b : Nat) (l : List Value) : Itm := ⟨fun k => k = b, fun W => Blk W b l⟩
theorem blkI_loc (b : Nat) (l : List Value) : (blkI b l).Loc := fun W W' h _ hk => by
  obtain ⟨t, h⟩ := (h : Blk W b l)
  exact ⟨t, by rw [hk b rfl]; exact h⟩
/-- Nothing. -/
def empI : Itm := ⟨fun _ => False, fun _ => True⟩
section
variable {w0 W W' : World} {L : List Itm}
theorem St.refl (w : World) : St w w [] := ⟨Below.refl _ w, fun i x e => by simp at e, fun i j x y e => by simp at e⟩
theorem St.on (h : St w0 W L) (hb : Below W.heap.size W W') : St w0 W' L :=
  ⟨Below.on h.below hb, fun i x e => by
    obtain ⟨h1, h2, h3⟩ := h.here i x e
    exact ⟨h1, h1 W W' h2 hb.size fun k hk => hb.block k (h3 k hk).2, fun k hk => ⟨(h3 k hk).1, Nat.lt_of_lt_of_le (h3 k hk).2 hb.size⟩⟩, h.apart⟩
theorem St.get (h : St w0 W L) (i : Nat) {x : Itm} (e : L[i]? = some x) : x.S W := (h.here i x e).2.1
theorem St.blk (h : St w0 W L) (i : Nat) {b : Nat} {l : List Value} (e : L[i]? = some (blkI b l)) : Blk W b l := h.get i e
theorem St.push (h : St w0 W L) (hb : Below W.heap.size W W') (x : Itm) (hl : x.Loc) (hS : x.S W') (hd : ∀ k, x.D k → W.heap.size ≤ k ∧ k < W'.heap.size) : St w0 W' (x :: L) := by
  have h' := h.on hb
  have hw := h.below.size
  refine ⟨h'.below, fun i y e => ?_, fun i j y z ey ez hij k hy hz => ?_⟩
  · cases i with
    | zero =>
      obtain rfl : x = y := by simpa using e
      exact ⟨hl, hS, fun k hk => ⟨by have := (hd k hk).1; omega, (hd k hk).2⟩⟩
    | succ i => exact h'.here i y (by simpa using e)
  · cases i with
    | zero =>
      obtain rfl : x = y := by simpa using ey
      cases j with
      | zero => exact hij rfl
      | succ j =>
        have := ((h.here j z (by simpa using ez)).2.2 k hz).2
        have := (hd k hy).1
        omega
    | succ i =>
      cases j with
      | zero =>
        obtain rfl : x = z := by simpa using ez
        have := ((h.here i y (by simpa using ey)).2.2 k hy).2
        have := (hd k hz).1
        omega
      | succ j => exact h.apart i j y z (by simpa using ey) (by simpa using ez) (fun e => hij (by rw [e])) k hy hz
theorem St.alloc (h : St w0 W L) (l : List Value) (t : TypeId) : St w0 (W.alloc (.cells l.toArray t)) (blkI W.heap.size l :: L) :=
  h.push ((Below.refl _ W).alloc (Nat.le_refl _) _) (blkI W.heap.size l) (blkI_loc _ _) (blk_new W l t) fun k hk => by
    obtain rfl : k = W.heap.size := hk
    exact ⟨Nat.le_refl _, by simp⟩
theorem St.drew (h : St w0 W L) : St w0 W.drew L := h.on (Below.refl _ W).drew
theorem St.drawn (h : St w0 W L) (n : Nat) : St w0 (W.drewN n) L := h.on (Below.drawn (Below.refl _ W) n)
/-- One item turns, and may take new memory; nothing else turns. -/
theorem St.set (h : St w0 W L) (i : Nat) {x : Itm} (e : L[i]? = some x) (x' : Itm) (hc : Chg x.D W W') (hl : x'.Loc) (hS : x'.S W') (hd : ∀ k, x'.D k → x.D k ∨ W.heap.size ≤ k ∧ k < W'.heap.size) : St w0 W' (L.set i x') := by
  have hi : i < L.length := (List.getElem?_eq_some_iff.1 e).1
  obtain ⟨g1, g2, g3⟩ := h.here i x e
  have hs := h.below.size
  refine ⟨hc.belowOf h.below (fun k hk => (g3 k hk).1) hs, fun j y ey => ?_, fun j m y z ey ez hjm k hy hz => ?_⟩
  · rw [List.getElem?_set] at ey
    by_cases hij : i = j
    · rw [if_pos hij, if_pos (by omega)] at ey
      obtain rfl : x' = y := by simpa using ey
      exact ⟨hl, hS, fun k hk => by
        have := hc.size
        rcases hd k hk with hx | hx
        · have := g3 k hx; omega
        · omega⟩
    · rw [if_neg hij] at ey
      obtain ⟨k1, k2, k3⟩ := h.here j y ey
      exact ⟨k1, k1 W W' k2 hc.size fun k hk => hc.block k (k3 k hk).2 fun hx => h.apart i j x y e ey hij k hx hk, fun k hk => ⟨(k3 k hk).1, Nat.lt_of_lt_of_le (k3 k hk).2 hc.size⟩⟩
  · rw [List.getElem?_set] at ey ez
    by_cases hij : i = j
    · rw [if_pos hij, if_pos (by omega)] at ey
      obtain rfl : x' = y := by simpa using ey
      rw [if_neg (by omega)] at ez
      rcases hd k hy with hx | hx
      · exact h.apart i m x z e ez (by omega) k hx hz
      · have := ((h.here m z ez).2.2 k hz).2; omega
    · rw [if_neg hij] at ey
      by_cases him : i = m
      · rw [if_pos him, if_pos (by omega)] at ez
        obtain rfl : x' = z := by simpa using ez
        rcases hd k hz with hx | hx
        · exact h.apart i j x y e ey hij k hx hy
        · have := ((h.here j y ey).2.2 k hy).2; omega
      · rw [if_neg him] at ez
        exact h.apart j m y z ey ez hjm k hy hz
theorem St.setBlk (h : St w0 W L) (i : Nat) {b : Nat} {l : List Value} (e : L[i]? = some (blkI b l)) (l' : List Value) (ht : Touch b (b + 1) W W') (hS : Blk W' b l') : St w0 W' (L.set i (blkI b l')) :=
  h.set i e (blkI b l') ((chg_touch ht).mono fun k _ hk => by show k = b; omega) (blkI_loc _ _) hS fun k hk => .inl hk
/-- The newest item is let go. -/
theorem St.tail {x : Itm} (h : St w0 W (x :: L)) : St w0 W L :=
  ⟨h.below, fun i y e => h.here (i + 1) y (by simpa using e), fun i j y z ey ez hij => h.apart (i + 1) (j + 1) y z (by simpa using ey) (by simpa using ez) (by omega)⟩
/-- The item behind the newest is let go. -/
theorem St.skip {x y : Itm} (h : St w0 W (x :: y :: L)) : St w0 W (x :: L) := by
  refine ⟨h.below, fun i z e => ?_, fun i j z u ez eu hij => ?_⟩
  · cases i with
    | zero => exact h.here 0 z e
    | succ i => exact h.here (i + 2) z (by simpa using e)
  · cases i with
    | zero =>
      cases j with
      | zero => exact absurd rfl hij
      | succ j => exact h.apart 0 (j + 2) z u ez (by simpa using eu) (by omega)
    | succ i =>
      cases j with
      | zero => exact h.apart (i + 2) 0 z u (by simpa using ez) eu (by omega)
      | succ j => exact h.apart (i + 2) (j + 2) z u (by simpa using ez) (by simpa using eu) (by omega)
/-- What one item held goes over to another one. -/
theorem St.give (h : St w0 W L) (i j : Nat) {x y : Itm} (ex : L[i]? = some x) (ey : L[j]? = some y) (hij : i ≠ j) (x' : Itm) (hl : x'.Loc) (hS : x'.S W) (hd : ∀ k, x'.D k → x.D k ∨ y.D k) : St w0 W ((L.set i x').set j empI) := by
  have hi : i < L.length := (List.getElem?_eq_some_iff.1 ex).1
  have hj : j < L.length := (List.getElem?_eq_some_iff.1 ey).1
  have get : ∀ m z, ((L.set i x').set j empI)[m]? = some z → (m = j ∧ z = empI) ∨ (m = i ∧ z = x') ∨ (m ≠ i ∧ m ≠ j ∧ L[m]? = some z) := fun m z ez => by
    rw [List.getElem?_set] at ez
    by_cases hm : j = m
    · rw [if_pos hm, if_pos (by simpa using by omega)] at ez
      exact .inl ⟨hm.symm, by simpa using ez.symm⟩
    · rw [if_neg hm, List.getElem?_set] at ez
      by_cases hmi : i = m
      · rw [if_pos hmi, if_pos (by omega)] at ez
        exact .inr (.inl ⟨hmi.symm, by simpa using ez.symm⟩)
      · rw [if_neg hmi] at ez
        exact .inr (.inr ⟨Ne.symm hmi, Ne.symm hm, ez⟩)
  refine ⟨h.below, fun m z ez => ?_, fun m n y' z' ey' ez' hmn k hy hz => ?_⟩
  · rcases get m z ez with ⟨_, rfl⟩ | ⟨_, rfl⟩ | ⟨_, _, e⟩
    · exact ⟨fun _ _ _ _ _ => trivial, trivial, fun k hk => hk.elim⟩
    · exact ⟨hl, hS, fun k hk => (hd k hk).elim ((h.here i x ex).2.2 k) ((h.here j y ey).2.2 k)⟩
    · exact h.here m z e
  · rcases get m y' ey' with ⟨_, rfl⟩ | ⟨h1, rfl⟩ | ⟨h1, h2, e1⟩
    · exact hy.elim
    · rcases get n z' ez' with ⟨_, rfl⟩ | ⟨h3, rfl⟩ | ⟨h3, h4, e2⟩
      · exact hz.elim
      · omega
      · rcases hd k hy with hx | hx
        · exact h.apart i n x z' ex e2 (Ne.symm h3) k hx hz
        · exact h.apart j n y z' ey e2 (Ne.symm h4) k hx hz
    · rcases get n z' ez' with ⟨_, rfl⟩ | ⟨h3, rfl⟩ | ⟨h3, h4, e2⟩
      · exact hz.elim
      · rcases hd k hz with hx | hx
        · exact h.apart i m x y' ex e1 (Ne.symm h1) k hx hy
        · exact h.apart j m y y' ey e1 (Ne.symm h2) k hx hy
      · exact h.apart m n y' z' e1 e2 hmn k hy hz
end
/-- What an operand holds, by looking. -/
def ValOf (a : Act) : Operand → Value → Prop
  | .tmp n, v => a.tmps.toList[n]? = some v
  | .const c, v => c = v
  | y, v => a.eval y = v
theorem ValOf.eval {a : Act} {y : Operand} {v : Value} (h : ValOf a y v) : a.eval y = v := by
  cases y
  case tmp n =>
    have h : a.tmps.toList[n]? = some v := h
    show a.tmps.getD n undef = v
    rw [Array.getElem?_toList] at h
    rw [Array.getD_eq_getD_getElem?, h]
    rfl
  all_goals exact h
/-- What a load of one cell hands back. -/
theorem run_loadVar_one {P : Program} (w : World) (a : Addr) (ty : TypeId) (v : Value) (hc : w.cell? a = some v) (hp : (P.underlying ty).any (fun d => !d.isRow) = true) : (loadVar ty a).run P w = .ok v w := by
  cases hd : P.underlying ty with
  | none => rw [hd] at hp; cases hp
  | some d =>
    rw [hd] at hp
    have hagg : (isAgg ty).run P w = .ok false w := by
      unfold isAgg
      rw [Sem.run_bind, run_underlying hd w]
      cases d <;> simp_all
    simp [loadVar, Sem.run_bind, hagg, hc]
theorem wpList_load_one {P : Program} {ops : Array Oper} {rest : List Oper} {op : Oper} {a : Act} {w : World} {Q : Exit → Act → World → Prop} (ty : TypeId) (x : Operand) (ho : op.op = .load ty x) (hgd : Region.wanted op (yielded ops a.tmps) = true) (ad : Addr) (hx : a.eval x = .pointer (some ad)) (v : Value)
    (hp : (P.underlying ty).any (fun d => !d.isRow) = true) (h : w.cell? ad = some v) (hw : wpList P ops Q rest (a.put op.dst v) w) : wpList P ops Q (op :: rest) a w := by
  refine BigFrame.wpList_want hgd fun _ hK => ?_
  unfold Oper.wp execOp
  simp only [ho, hx, Instr.loadAt, Instr.sureAddr, Sem.run_bind, Sem.run_pure, Result.andThen_ok, run_loadVar_one w ad ty v h hp]
  exact hK _ _ hw
/-- A load of one cell of an item. -/
theorem st_load1 {w0 : World} {L : List Itm} {P : Program} {ops : Array Oper} {rest : List Oper} {op : Oper} {a : Act} {w : World} {Q : Exit → Act → World → Prop} (HS : Hid (St w0 w L)) (i : Nat) {b : Nat} {l : List Value} (e : L[i]? = some (blkI b l)) (ty : TypeId) (x : Operand) (ho : op.op = .load ty x) (o : Nat) (hx : a.eval x = .pointer (some ⟨b, o, none⟩)) (hgd : Region.wanted op (yielded ops a.tmps) = true)
    (hp : (P.underlying ty).any (fun d => !d.isRow) = true) {v : Value} (hv : l[o]? = some v) (hw : wpList P ops Q rest (a.put op.dst v) w) : wpList P ops Q (op :: rest) a w :=
  wpList_load_one ty x ho hgd _ hx v hp ((HS.out.blk i e).cell o v hv) hw
/-- A load of an item whole. -/
theorem st_loadA {w0 : World} {L : List Itm} {P : Program} {ops : Array Oper} {rest : List Oper} {op : Oper} {a : Act} {w : World} {Q : Exit → Act → World → Prop} (HS : Hid (St w0 w L)) (i : Nat) {b : Nat} {l : List Value} (e : L[i]? = some (blkI b l)) (ty : TypeId) (x : Operand) (ho : op.op = .load ty x) (hx : a.eval x = .pointer (some ⟨b, 0, none⟩)) (hgd : Region.wanted op (yielded ops a.tmps) = true)
    (hr : (P.underlying ty).any (·.isRow) = true) (hi : (P.info? ty).map (·.size) = some l.length) (hw : wpList P ops Q rest (a.put op.dst (.agg l.toArray)) w) : wpList P ops Q (op :: rest) a w :=
  wpList_load_at ty x ho hgd b 0 hx l hr hi (HS.out.blk i e).range hw
/-- A load of some cells of an item. -/
theorem st_loadR {w0 : World} {L : List Itm} {P : Program} {ops : Array Oper} {rest : List Oper} {op : Oper} {a : Act} {w : World} {Q : Exit → Act → World → Prop} (HS : Hid (St w0 w L)) (i : Nat) {b : Nat} {l : List Value} (e : L[i]? = some (blkI b l)) (ty : TypeId) (x : Operand) (ho : op.op = .load ty x) (o : Nat) (hx : a.eval x = .pointer (some ⟨b, o, none⟩)) (hgd : Region.wanted op (yielded ops a.tmps) = true)
    (hr : (P.underlying ty).any (·.isRow) = true) (cs r : List Value) (hi : (P.info? ty).map (·.size) = some cs.length) (hl : l.drop o = cs ++ r) (hw : wpList P ops Q rest (a.put op.dst (.agg cs.toArray)) w) : wpList P ops Q (op :: rest) a w := by
  refine wpList_load_at ty x ho hgd b o hx cs hr hi (fun j v hj => ?_) hw
  refine (HS.out.blk i e).cell (o + j) v ?_
  have : (l.drop o)[j]? = some v := by rw [hl, List.getElem?_append_left (List.getElem?_eq_some_iff.1 hj).1]; exact hj
  simpa using this
theorem run_storeVar_one {P : Program} (w : World) (a : Addr) (ty : TypeId) (u v : Value) (hc : w.cell? a = some u) (hf : w.frozen? a = false) (h1 : v.oneCell' = true) (hi : (P.info? ty).map (·.size) = some 1) : (storeVar ty a v).run P w = .ok () (w.setCell a v) := by
  have hv : v.cells = #[v] := by cases v <;> first | rfl | cases h1
  obtain ⟨b, o, s⟩ := a
  have hs : s = none := by simpa using World.cell?_spot hc
  subst hs
  have := run_storeCells_cells (P := P) b o [v] 0 w (fun j hj => by simp at hj; subst hj; simpa using (by rw [hc]; rfl : (w.cell? ⟨b, o, none⟩).isSome = true)) (fun j hj => by simp at hj; subst hj; simpa using hf) (fun x hx => by simp at hx; subst hx; exact h1)
  cases hq : P.info? ty with
  | none => simp [hq] at hi
  | some i =>
    have hs : i.size = 1 := by simp [hq] at hi; omega
    simp only [Nat.add_zero] at this
    simp [storeVar, sizeOf, typeInfo, hq, hv, hs, this, World.setCells]
theorem wpList_store_one {P : Program} {ops : Array Oper} {rest : List Oper} {op : Oper} {a : Act} {w : World} {Q : Exit → Act → World → Prop} (ty : TypeId) (x y : Operand) (ho : op.op = .store ty x y) (hgd : Region.wanted op (yielded ops a.tmps) = true) (ad : Addr) (hx : a.eval x = .pointer (some ad)) (u v : Value) (hy : a.eval y = v)
    (hi : (P.info? ty).map (·.size) = some 1) (h1 : v.oneCell' = true) (hc : w.cell? ad = some u) (hf : w.frozen? ad = false) (hw : wpList P ops Q rest (a.put op.dst undef) (w.setCell ad v)) : wpList P ops Q (op :: rest) a w := by
  refine BigFrame.wpList_want hgd fun _ hK => ?_
  unfold Oper.wp execOp
  simp only [ho, hx, hy, Instr.storeAt, Instr.sureAddr, Sem.run_bind, Sem.run_pure, Result.andThen_ok, run_storeVar_one w ad ty u v hc hf h1 hi]
  exact hK _ _ hw
/-- A store into one cell of an item. -/
theorem st_store1 {w0 : World} {L : List Itm} {P : Program} {ops : Array Oper} {rest : List Oper} {op : Oper} {a : Act} {w : World} {Q : Exit → Act → World → Prop} (HS : Hid (St w0 w L)) (i : Nat) {b : Nat} {l : List Value} (e : L[i]? = some (blkI b l)) (ty : TypeId) (x y : Operand) (ho : op.op = .store ty x y) (o : Nat) (hx : a.eval x = .pointer (some ⟨b, o, none⟩)) (hgd : Region.wanted op (yielded ops a.tmps) = true)
    {v : Value} (hy : ValOf a y v) (hi : (P.info? ty).map (·.size) = some 1) (h1 : v.oneCell' = true) {u : Value} (hu : l[o]? = some u) (hw : ∀ W, Hid (St w0 W (L.set i (blkI b (l.set o v)))) → wpList P ops Q rest (a.put op.dst undef) W) : wpList P ops Q (op :: rest) a w :=
  have B := HS.out.blk i e
  wpList_store_one ty x y ho hgd _ hx u v hy.eval hi h1 (B.cell o u hu) (B.frozen o) (hw _ (HS.out.setBlk i e _ ((Touch.refl b (b + 1) w).setCell (a := ⟨b, o, none⟩) (Nat.le_refl b) (Nat.lt_succ_self b) v) (B.set o v)))
/-- A store over an item whole. -/
theorem st_storeA {w0 : World} {L : List Itm} {P : Program} {ops : Array Oper} {rest : List Oper} {op : Oper} {a : Act} {w : World} {Q : Exit → Act → World → Prop} (HS : Hid (St w0 w L)) (i : Nat) {b : Nat} {l : List Value} (e : L[i]? = some (blkI b l)) (ty : TypeId) (x y : Operand) (ho : op.op = .store ty x y) (hx : a.eval x = .pointer (some ⟨b, 0, none⟩)) (hgd : Region.wanted op (yielded ops a.tmps) = true)
    (vs : List Value) (hy : ValOf a y (.agg vs.toArray)) (hl : vs.length = l.length) (hi : (P.info? ty).map (·.size) = some vs.length) (h1 : vs.all (·.oneCell') = true) (hw : ∀ W, Hid (St w0 W (L.set i (blkI b vs))) → wpList P ops Q rest (a.put op.dst undef) W) : wpList P ops Q (op :: rest) a w :=
  have B := HS.out.blk i e
  wpList_store_all hgd ty x y ho b l vs hx hy.eval B hl hi h1 fun W BW TW sW => hw W (HS.out.setBlk i e vs TW BW)
/-- A store over some cells of an item. -/
theorem st_storeR {w0 : World} {L : List Itm} {P : Program} {ops : Array Oper} {rest : List Oper} {op : Oper} {a : Act} {w : World} {Q : Exit → Act → World → Prop} (HS : Hid (St w0 w L)) (i : Nat) {b : Nat} {l : List Value} (e : L[i]? = some (blkI b l)) (ty : TypeId) (x y : Operand) (ho : op.op = .store ty x y) (o : Nat) (hx : a.eval x = .pointer (some ⟨b, o, none⟩)) (hgd : Region.wanted op (yielded ops a.tmps) = true)
    (vs : List Value) (hy : ValOf a y (.agg vs.toArray)) (hl : o + vs.length ≤ l.length) (hi : (P.info? ty).map (·.size) = some vs.length) (h1 : vs.all (·.oneCell') = true) (hw : ∀ W, Hid (St w0 W (L.set i (blkI b (setL l o vs)))) → wpList P ops Q rest (a.put op.dst undef) W) : wpList P ops Q (op :: rest) a w := by
  have B := HS.out.blk i e
  refine BigFrame.wpList_want hgd fun _ hK => wp_store_mid ty x y ho b o vs.toArray hx hy.eval (fun j hj => ?_) (by simpa using hi) (by simpa using h1) (hK _ _ (hw _ (HS.out.setBlk i e _ (Touch.setCells _ _ _) (Blk.setCells vs o B))))
  have hj' : o + j < l.length := by have : j < vs.length := by simpa using hj
                                    omega
  refine ⟨?_, B.frozen _⟩
  rw [B.cell (o + j) l[o + j] (List.getElem?_eq_getElem hj')]
  rfl
/-- A new item: a variable that holds a value of many cells; of one; a blank one. -/
theorem run_newVar {P : Program} (w : World) (t : TypeId) (v : Value) : (newVar t v).run P w = .ok ⟨w.heap.size, 0, none⟩ (w.alloc (.cells v.cells t)) := by
  unfold newVar newRow
  simp [Sem.run_bind, go_sem]
theorem st_box {w0 : World} {L : List Itm} {P : Program} {ops : Array Oper} {rest : List Oper} {op : Oper} {a : Act} {w : World} {Q : Exit → Act → World → Prop} (HS : Hid (St w0 w L)) (ty : TypeId) (x : Operand) (ho : op.op = .box ty x) (hgd : Region.wanted op (yielded ops a.tmps) = true) (l : List Value) (hx : (a.eval x).cells = l.toArray)
    (hw : ∀ W b, Hid (St w0 W (blkI b l :: L)) → wpList P ops Q rest (a.put op.dst (.pointer (some ⟨b, 0, none⟩))) W) : wpList P ops Q (op :: rest) a w := by
  refine BigFrame.wpList_want hgd fun _ hK => ?_
  unfold Oper.wp execOp
  simp only [ho, Instr.box, Sem.run_bind, Sem.run_pure, Result.andThen_ok, run_newVar, hx]
  exact hK _ _ (hw _ _ (HS.out.alloc l ty))
theorem st_alloc {w0 : World} {L : List Itm} {P : Program} {ops : Array Oper} {rest : List Oper} {op : Oper} {a : Act} {w : World} {Q : Exit → Act → World → Prop} (HS : Hid (St w0 w L)) (ty : TypeId) (ho : op.op = .alloc ty) (hgd : Region.wanted op (yielded ops a.tmps) = true) (l : List Value) (hz : ((P.info? ty).bind (·.zero)).map (·.cells) = some l.toArray)
    (hw : ∀ W b, Hid (St w0 W (blkI b l :: L)) → wpList P ops Q rest (a.put op.dst (.pointer (some ⟨b, 0, none⟩))) W) : wpList P ops Q (op :: rest) a w := by
  refine BigFrame.wpList_want hgd fun _ hK => ?_
  cases hq : P.info? ty with
  | none => simp [hq] at hz
  | some i =>
    cases hzz : i.zero with
    | none => simp [hq, hzz] at hz
    | some z =>
      have hc : z.cells = l.toArray := by simpa [hq, hzz] using hz
      have hzv : (zeroValue ty).run P w = .ok z w := by simp [zeroValue, typeInfo, Sem.run_bind, hq, hzz]
      unfold Oper.wp execOp
      simp only [ho, Instr.alloc, Sem.run_bind, hzv, Sem.run_pure, Result.andThen_ok, run_newVar, hc]
      exact hK _ _ (hw _ _ (HS.out.alloc l ty))
section
variable {w0 w : World} {L : List Itm} {P : Program} {op : Oper} {a : Act} {K : Act → World → Prop} {Q : Exit → Act → World → Prop}
theorem stw_store1 (HS : Hid (St w0 w L)) (i : Nat) {b : Nat} {l : List Value} (e : L[i]? = some (blkI b l)) (ty : TypeId) (x y : Operand) (ho : op.op = .store ty x y) (o : Nat) (hx : a.eval x = .pointer (some ⟨b, o, none⟩))
    {v : Value} (hy : ValOf a y v) (hi : (P.info? ty).map (·.size) = some 1) (h1 : v.oneCell' = true) {u : Value} (hu : l[o]? = some u) (hw : ∀ W, Hid (St w0 W (L.set i (blkI b (l.set o v)))) → K (a.put op.dst undef) W) : op.wp P a w K Q := by
  have B := HS.out.blk i e
  unfold Oper.wp execOp
  simp only [ho, hx, hy.eval, Instr.storeAt, Instr.sureAddr, Sem.run_bind, Sem.run_pure, Result.andThen_ok, run_storeVar_one w ⟨b, o, none⟩ ty u v (B.cell o u hu) (B.frozen o) h1 hi]
  exact hw _ (HS.out.setBlk i e _ ((Touch.refl b (b + 1) w).setCell (a := ⟨b, o, none⟩) (Nat.le_refl b) (Nat.lt_succ_self b) v) (B.set o v))
theorem stw_storeA (HS : Hid (St w0 w L)) (i : Nat) {b : Nat} {l : List Value} (e : L[i]? = some (blkI b l)) (ty : TypeId) (x y : Operand) (ho : op.op = .store ty x y) (hx : a.eval x = .pointer (some ⟨b, 0, none⟩))
    (vs : List Value) (hy : ValOf a y (.agg vs.toArray)) (hl : vs.length = l.length) (hi : (P.info? ty).map (·.size) = some vs.length) (h1 : vs.all (·.oneCell') = true) (hw : ∀ W, Hid (St w0 W (L.set i (blkI b vs))) → K (a.put op.dst undef) W) : op.wp P a w K Q := by
  have B := HS.out.blk i e
  refine wp_store_mid ty x y ho b 0 vs.toArray hx hy.eval (fun j hj => ?_) (by simpa using hi) (by simpa using h1) (hw _ (HS.out.setBlk i e vs (Touch.setCells _ _ _) ?_))
  · have hj' : j < l.length := by simpa [hl] using hj
    refine ⟨?_, B.frozen _⟩
    rw [Nat.zero_add, B.cell j l[j] (List.getElem?_eq_getElem hj')]
    rfl
  · have := Blk.setCells vs 0 B
    rw [setL_all hl] at this
    simpa using this
theorem stw_alloc (HS : Hid (St w0 w L)) (ty : TypeId) (ho : op.op = .alloc ty) (l : List Value) (hz : ((P.info? ty).bind (·.zero)).map (·.cells) = some l.toArray)
    (hw : ∀ W b, Hid (St w0 W (blkI b l :: L)) → K (a.put op.dst (.pointer (some ⟨b, 0, none⟩))) W) : op.wp P a w K Q := by
  cases hq : P.info? ty with
  | none => simp [hq] at hz
  | some i =>
    cases hzz : i.zero with
    | none => simp [hq, hzz] at hz
    | some z =>
      have hc : z.cells = l.toArray := by simpa [hq, hzz] using hz
      have hzv : (zeroValue ty).run P w = .ok z w := by simp [zeroValue, typeInfo, Sem.run_bind, hq, hzz]
      unfold Oper.wp execOp
      simp only [ho, Instr.alloc, Sem.run_bind, hzv, Sem.run_pure, Result.andThen_ok, run_newVar, hc]
      exact hw _ _ (HS.out.alloc l ty)
end
end Go.Proofs.YtnjognmnbpcaaaaGreat
namespace Go.Proofs.YtnjognmnbpcaaaaGreat
open Go.RowKit
theorem grown_same (w : World) (row : Option Nat) : w.grownBy w row := ⟨rfl, rfl, rfl, Nat.le_refl _, fun _ _ _ => rfl⟩
theorem wpList_append_row {P : Program} {w : World} {ops : Array Oper} {rest : List Oper} {o : Oper} {a : Act} {Q : Exit → Act → World → Prop} (hgd : o.guard = none) (s x : Operand) (t : TypeId)
    (ho : o.op = .call { callee := .builtin .append, args := #[s, x], argTypes := #[t, t] })
    (base : Nat) (e : TypeId) (i : TypeInfo) (z : Value) (size bytes : Nat) (ht : P.underlying t = some (.slice e)) (hi : P.info? e = some i) (hz : i.zero = some z)
    (hsize : i.size = size) (hby : i.bytes = bytes) (hzs : z.cells.size = size) (hsz : 0 < size)
    (v : Value) (m : Nat) (xs : List Value) (hs : a.eval s = v) (hown : w.ownsRow base e size v m xs)
    (ad : Option Addr) (n c : Nat) (f : Nat → Value) (hx : a.eval x = .slice ad n c) (ha : ad = none → n = 0 ∧ c = 0) (hrow : Row w ad (n * size) f) (h1 : ∀ i, (f i).oneCell' = true)
    (h63 : m + n ≤ maxLen) (hbytes : (m + n) * bytes ≤ 140737488355328) (hbase : base ≤ w.heap.size)
    (h : ∀ v' w', w'.ownsRow base e size v' (m + n) (xs ++ rowL f (n * size)) → w.grownBy w' v.ownBlock → wpList P ops Q rest (a.put o.dst v') w') : wpList P ops Q (o :: rest) a w := by
  cases ad with
  | none =>
    obtain ⟨rfl, rfl⟩ := ha rfl
    refine wpList_append_own_none hgd s x t ho base e i size ht hi v m xs hs hown hx (h v w ?_ (grown_same _ _))
    have : rowL f (0 * size) = [] := by rw [Nat.zero_mul]; rfl
    rw [this, List.append_nil]
    exact hown
  | some ad =>
    exact wpList_append_own w hgd s x t ho base e i z size bytes ht hi hz hsize hby hzs hsz v m xs hs hown ad n c (rowL f (n * size)) hx (rowL_len _ _) hrow.news (rowL_one fun i _ => h1 i) h63 hbytes hbase fun v' w' h2 h3 _ => h v' w' h2 h3
/-- What is owned, as a slice. -/
theorem slice_of_owns {w : World} {base : Nat} {e : TypeId} {k n : Nat} {v : Value} {f : Nat → Value} (h : w.ownsRow base e k v n (rowL f (n * k))) :
    ∃ (a : Option Addr) (c : Nat), v = .slice a n c ∧ n ≤ c ∧ (a = none → n = 0 ∧ c = 0) ∧ Row w a (n * k) f ∧ (0 < n → ∃ b, a = some ⟨b, 0, none⟩ ∧ base ≤ b ∧ b < w.heap.size ∧ Own w b (n * k) f) := by
  rcases own_of_owns h with ⟨rfl, h0⟩ | ⟨g, cap, rfl, hg1, hc, _, ho⟩
  · subst h0
    exact ⟨none, 0, rfl, Nat.le_refl _, fun _ => ⟨rfl, rfl⟩, by rw [Nat.zero_mul]; exact row_zero _ _ _, fun h => absurd h (Nat.lt_irrefl 0)⟩
  · exact ⟨some ⟨g, 0, none⟩, cap, rfl, hc, (fun h => by cases h), ho.row, fun _ => ⟨g, rfl, hg1, ho.lt, ho⟩⟩
theorem owns_drawn {w : World} {base : Nat} {e : TypeId} {k n : Nat} {v : Value} {xs : List Value} (h : w.ownsRow base e k v n xs) (q : Nat) : (w.drewN q).ownsRow base e k v n xs := h
end Go.Proofs.YtnjognmnbpcaaaaGreat
namespace Go.Proofs.YtnjognmnbpcaaaaGreat
open Go.RowKit
set_option linter.unusedSimpArgs false
set_option linter.unusedVariables false
/-- A machine's lists, by number: its levels', its sessions', its trace's, each session's three. -/
def SesM.sl (q : SesM) (j : Nat) : Sl := match j with | 0 => q.p | 1 => q.r | _ => q.t
def MacM.sl (A : MacM) (j : Nat) : Sl := if j < 4 then A.w j else if j = 4 then A.s else if j = 5 then A.e else (A.q ((j - 6) / 3)).sl ((j - 6) % 3)
theorem MacM.sl_w (A : MacM) {g : Nat} (h : g < 4) : A.sl g = A.w g := by simp [MacM.sl, h]
theorem MacM.sl_s (A : MacM) : A.sl 4 = A.s := rfl
theorem MacM.sl_e (A : MacM) : A.sl 5 = A.e := rfl
theorem MacM.sl_q (A : MacM) (i : Nat) {j : Nat} (hj : j < 3) : A.sl (6 + 3 * i + j) = (A.q i).sl j := by
  unfold MacM.sl
  rw [if_neg (by omega), if_neg (by omega), if_neg (by omega), show (6 + 3 * i + j - 6) / 3 = i by omega, show (6 + 3 * i + j - 6) % 3 = j by omega]
def MacM.num (A : MacM) : Nat := 6 + 3 * A.s.n
/-- Where its cells stand, they stand in this world too. -/
theorem Row.keep {W W' : World} {a : Option Addr} {n : Nat} {f : Nat → Value} (h : Row W a n f) (hs : W.heap.size ≤ W'.heap.size) (hk : 0 < n → ∀ b o, a = some ⟨b, o, none⟩ → W'.heap[b]? = W.heap[b]?) : Row W' a n f := by
  intro i hi
  obtain ⟨b, off, e, hlt, hc⟩ := h i hi
  exact ⟨b, off, e, by omega, by rw [← hc]; exact World.cell?_of_block (w := W) (a := ⟨b, off + i, .none⟩) (hk (by omega) b off e)⟩
theorem SlIs.keep {W W' : World} {k : Nat} {s : Sl} {L : List Int} (h : SlIs W k s L) (hs : W.heap.size ≤ W'.heap.size) (hk : 0 < s.n → ∀ b o, s.a = some ⟨b, o, none⟩ → W'.heap[b]? = W.heap[b]?) : SlIs W' k s L :=
  ⟨h.1, h.2.1, h.2.2.keep hs fun h0 => hk (Nat.pos_of_mul_pos_right h0)⟩
theorem SessIs.keep {W W' : World} {q : SesM} {x : PSess} (h : SessIs W q x) (hs : W.heap.size ≤ W'.heap.size) (hk : ∀ j, j < 3 → 0 < (q.sl j).n → ∀ b o, (q.sl j).a = some ⟨b, o, none⟩ → W'.heap[b]? = W.heap[b]?) : SessIs W' q x :=
  ⟨h.1, h.2.1.keep hs (hk 0 (by decide)), h.2.2.1.keep hs (hk 1 (by decide)), h.2.2.2.keep hs (hk 2 (by decide))⟩
theorem MachIs.keep {W W' : World} {A : MacM} {M : PMach} (h : MachIs W A M) (hs : W.heap.size ≤ W'.heap.size) (hk : ∀ j, j < A.num → 0 < (A.sl j).n → ∀ b o, (A.sl j).a = some ⟨b, o, none⟩ → W'.heap[b]? = W.heap[b]?) : MachIs W' A M where
  four := h.four
  clocks := h.clocks
  words := fun g hg => (h.words g hg).keep hs fun h0 b o e => hk g (by unfold MacM.num; omega) (by rw [A.sl_w hg]; exact h0) b o (by rw [A.sl_w hg]; exact e)
  sess := ⟨h.sess.1, h.sess.2.1, h.sess.2.2.1.keep hs fun h0 => hk 4 (by unfold MacM.num; omega) (Nat.pos_of_mul_pos_right h0), fun i hi => (h.sess.2.2.2 i hi).keep hs fun j hj h0 b o e => hk (6 + 3 * i + j) (by unfold MacM.num; omega) (by rw [A.sl_q i hj]; exact h0) b o (by rw [A.sl_q i hj]; exact e)⟩
  trace := h.trace.keep hs (hk 5 (by unfold MacM.num; omega))
def SlOwn (D : Nat → Prop) (W : World) (s : Sl) : Prop := 0 < s.n → ∃ b, s.a = some ⟨b, 0, none⟩ ∧ D b ∧ ∃ l, Blk W b l
theorem SlOwn.keep {D : Nat → Prop} {W W' : World} {s : Sl} (h : SlOwn D W s) (hk : ∀ b, D b → W'.heap[b]? = W.heap[b]?) : SlOwn D W' s := fun h0 => by
  obtain ⟨b, e, h1, l, t, h3⟩ := h h0
  exact ⟨b, e, h1, l, t, by rw [hk b h1]; exact h3⟩
theorem SlOwn.mono {D D' : Nat → Prop} {W : World} {s : Sl} (h : SlOwn D W s) (hd : ∀ k, D k → D' k) : SlOwn D' W s := fun h0 => by
  obtain ⟨b, e, h3, h5⟩ := h h0
  exact ⟨b, e, hd b h3, h5⟩
theorem slOwn_none (D : Nat → Prop) (W : World) {s : Sl} (h : s.n = 0) : SlOwn D W s := fun h0 => by omega
/-- The block of an owned row stands as it was: so does the row. -/
theorem ownsRow_keep {W W' : World} {base : Nat} {e : TypeId} {k n : Nat} {v : Value} {xs : List Value} (h : W.ownsRow base e k v n xs) (hk : ∀ g, v.ownBlock = some g → W'.heap[g]? = W.heap[g]?) : W'.ownsRow base e k v n xs := by
  obtain ⟨hl, h2⟩ := h
  refine ⟨hl, ?_⟩
  rcases h2 with h2 | ⟨g, cap, cur, rfl, hg, hh, rest⟩
  · exact .inl h2
  · exact .inr ⟨g, cap, cur, rfl, hg, by rw [hk g rfl]; exact hh, rest⟩
/-- In memory of its own. -/
structure MachOwn (D : Nat → Prop) (W : World) (A : MacM) (M : PMach) : Prop where
  is : MachIs W A M
  own : ∀ j, j < A.num → SlOwn D W (A.sl j)
  apart : ∀ i j, i < j → j < A.num → 0 < (A.sl i).n → 0 < (A.sl j).n → (A.sl i).a ≠ (A.sl j).a
  trace : ∃ v, v = A.e.v ∧ W.ownsRow 0 88 4 v A.e.n (rowL (intF (lz M.trace)) (A.e.n * 4)) ∧ ∀ g, v.ownBlock = some g → D g ∧ ∀ j, j < A.num → j ≠ 5 → 0 < (A.sl j).n → (A.sl j).a ≠ some ⟨g, 0, none⟩
section
variable {D : Nat → Prop} {W W' : World} {A : MacM} {M : PMach}
theorem MachOwn.keep (h : MachOwn D W A M) (hs : W.heap.size ≤ W'.heap.size) (hk : ∀ b, D b → W'.heap[b]? = W.heap[b]?) : MachOwn D W' A M where
  is := h.is.keep hs fun j hj h0 b o e => by
    obtain ⟨b', e', h1, _⟩ := h.own j hj h0
    rw [e'] at e
    cases e
    exact hk _ h1
  own := fun j hj => (h.own j hj).keep hk
  apart := h.apart
  trace := by
    obtain ⟨v, hv, ho, hb⟩ := h.trace
    exact ⟨v, hv, ownsRow_keep ho fun g hg => hk g (hb g hg).1, hb⟩
theorem MachOwn.mono {D' : Nat → Prop} (h : MachOwn D W A M) (h2 : ∀ k, D k → D' k) : MachOwn D' W A M where
  is := h.is
  own := fun j hj => (h.own j hj).mono h2
  apart := h.apart
  trace := by
    obtain ⟨v, hv, ho, hb⟩ := h.trace
    exact ⟨v, hv, ho, fun g hg => ⟨h2 g (hb g hg).1, (hb g hg).2⟩⟩
end
def machI (D : Nat → Prop) (A : MacM) (M : PMach) : Itm := ⟨D, fun W => MachOwn D W A M⟩
theorem machI_loc (D : Nat → Prop) (A : MacM) (M : PMach) : (machI D A M).Loc := fun W W' h hs hk => (h : MachOwn D W A M).keep hs hk
theorem noMac_n (j : Nat) : (noMac.sl j).n = 0 := by
  unfold MacM.sl noMac SesM.sl
  split
  · rfl
  · split
    · rfl
    · split
      · rfl
      · split <;> rfl
theorem machOwn_none (D : Nat → Prop) (W : World) : MachOwn D W noMac noMach where
  is := machIs_none W
  own := fun j hj h0 => by have := noMac_n j; omega
  apart := fun i j _ hj h0 _ => by have := noMac_n i; omega
  trace := ⟨.slice none 0 0, rfl, World.ownsRow_nil _ _ _ _, fun g hg => by simp [Value.ownBlock] at hg⟩
/-- A session's numbers' places in its cells. -/
def posN (k : Nat) : Nat := if k < 3 then k else if k < 9 then k + 1 else k + 3
def PSess.setN (x : PSess) (k : Nat) (v : Int) : PSess := { x with num := x.num.set k v }
def PMach.setS (M : PMach) (i : Nat) (x : PSess) : PMach := { M with sess := M.sess.set i x }
def PMach.setLv (M : PMach) (g : Nat) (L : List Int) : PMach := { M with words := M.words.set g L }
def updM (q : Nat → SesM) (i : Nat) (x : SesM) (k : Nat) : SesM := if k = i then x else q k
def MacM.setQ (A : MacM) (i : Nat) (x : SesM) : MacM := { A with q := updM A.q i x }
theorem updM_self (q : Nat → SesM) (i : Nat) : updM q i (q i) = q := by funext k; unfold updM; split <;> simp_all
theorem MacM.setQ_self (A : MacM) (i : Nat) : A.setQ i (A.q i) = A := by unfold MacM.setQ; rw [updM_self]
theorem MacM.num_setQ (A : MacM) (i : Nat) (x : SesM) : (A.setQ i x).num = A.num := rfl
theorem MacM.sl_setQ (A : MacM) (i : Nat) (x : SesM) (j : Nat) : (A.setQ i x).sl j = if 6 ≤ j ∧ (j - 6) / 3 = i then x.sl ((j - 6) % 3) else A.sl j := by
  unfold MacM.sl MacM.setQ
  simp only [updM]
  by_cases h1 : j < 4
  · rw [if_pos h1, if_pos h1, if_neg (by omega)]
  · rw [if_neg h1, if_neg h1]
    by_cases h2 : j = 4
    · rw [if_pos h2, if_pos h2, if_neg (by omega)]
    · rw [if_neg h2, if_neg h2]
      by_cases h3 : j = 5
      · rw [if_pos h3, if_pos h3, if_neg (by omega)]
      · rw [if_neg h3, if_neg h3]
        by_cases h4 : (j - 6) / 3 = i
        · rw [if_pos h4, if_pos ⟨by omega, h4⟩]
        · rw [if_neg h4, if_neg (by omega)]
theorem getD_set_eq {α : Type} {l : List α} {i : Nat} (x d : α) (h : i < l.length) : (l.set i x).getD i d = x := by simp [List.getD, h]
theorem getD_set_ne' {α : Type} {l : List α} {i j : Nat} (x d : α) (h : i ≠ j) : (l.set i x).getD j d = l.getD j d := by simp [List.getD, h]
section
variable {D : Nat → Prop} {W W' : World} {A : MacM} {M : PMach}
/-- The sessions' block. -/
theorem MachOwn.sblk (h : MachOwn D W A M) {i : Nat} (hi' : i < A.s.n) : ∃ b, A.s.a = some ⟨b, 0, none⟩ ∧ D b ∧ ∃ l, Blk W b l := h.own 4 (by unfold MacM.num; omega) (by rw [A.sl_s]; omega)
/-- A session turns: the cells of its place in the sessions' block, nothing else. -/
theorem MachOwn.turn (h : MachOwn D W A M) {i b : Nat} (hi' : i < A.s.n) (hb : A.s.a = some ⟨b, 0, none⟩) (q' : SesM) (x' : PSess) (ht : Touch b (b + 1) W W') (hB : ∃ l, Blk W' b l)
    (hc : ∀ j, j < 17 → W'.cell? ⟨b, i * 17 + j, none⟩ = some ((sessOf q' x').getD j undef)) (hf : ∀ o, o < i * 17 ∨ i * 17 + 17 ≤ o → W'.cell? ⟨b, o, none⟩ = W.cell? ⟨b, o, none⟩)
    (hx : SessIs W' q' x') (ho : ∀ j, j < 3 → SlOwn D W' (q'.sl j)) (ha : ∀ j k, j < 3 → k < A.num → k ≠ 6 + 3 * i + j → 0 < (q'.sl j).n → 0 < ((A.setQ i q').sl k).n → ((A.setQ i q').sl k).a ≠ (q'.sl j).a) (ht5 : ∀ v, v = A.e.v → ∀ g, v.ownBlock = some g → ∀ j, j < 3 → 0 < (q'.sl j).n → (q'.sl j).a ≠ some ⟨g, 0, none⟩) :
    MachOwn D W' (A.setQ i q') (M.setS i x') := by
  have hX := h.is.sess.1
  have far : ∀ j, j < A.num → j ≠ 4 → 0 < (A.sl j).n → ∀ b' o, (A.sl j).a = some ⟨b', o, none⟩ → b' ≠ b := fun j hj hj4 h0 b' o e hbb => by
    subst hbb
    obtain ⟨b2, e2, _⟩ := h.own j hj h0
    rw [e2] at e
    cases e
    have h4 : 0 < (A.sl 4).n := by rw [A.sl_s]; omega
    rcases Nat.lt_or_gt_of_ne hj4 with hl | hl
    · exact h.apart j 4 hl (by unfold MacM.num; omega) h0 h4 (by rw [e2, A.sl_s, hb])
    · exact h.apart 4 j hl hj h4 h0 (by rw [e2, A.sl_s, hb])
  have keepB : ∀ b', b' ≠ b → b' < W.heap.size → W'.heap[b']? = W.heap[b']? := fun b' hb' hlt => ht.block b' (by omega) hlt
  have lt_of : ∀ j, j < A.num → 0 < (A.sl j).n → ∀ b' o, (A.sl j).a = some ⟨b', o, none⟩ → b' < W.heap.size := fun j hj h0 b' o e => by
    obtain ⟨b2, e2, _, l, hl⟩ := h.own j hj h0
    rw [e2] at e
    cases e
    exact hl.lt
  have kp : ∀ j, j < A.num → j ≠ 4 → 0 < (A.sl j).n → ∀ b' o, (A.sl j).a = some ⟨b', o, none⟩ → W'.heap[b']? = W.heap[b']? := fun j hj hj4 h0 b' o e => keepB b' (far j hj hj4 h0 b' o e) (lt_of j hj h0 b' o e)
  have nn : A.num = 6 + 3 * A.s.n := rfl
  refine ⟨⟨h.is.four, h.is.clocks, fun g hg => ?_, ⟨?_, h.is.sess.2.1, ?_, ?_⟩, ?_⟩, ?_, ?_, ?_⟩
  · have := (h.is.words g hg).keep ht.size fun h0 b' o e => kp g (by omega) (by omega) (by rw [A.sl_w hg]; exact h0) b' o (by rw [A.sl_w hg]; exact e)
    exact this
  · show (M.sess.set i x').length = A.s.n
    rw [List.length_set]; exact hX
  · show Row W' A.s.a (A.s.n * 17) (sessCell (updM A.q i q') (M.sess.set i x'))
    intro c hcl
    obtain ⟨b2, off, e2, hlt, hcc⟩ := h.is.sess.2.2.1 c hcl
    rw [hb] at e2
    cases e2
    refine ⟨b, 0, hb, Nat.lt_of_lt_of_le hlt ht.size, ?_⟩
    rw [Nat.zero_add] at hcc ⊢
    unfold sessCell updM
    by_cases hci : c / 17 = i
    · rw [if_pos hci, hci, getD_set_eq _ _ (by omega)]
      have := hc (c % 17) (Nat.mod_lt _ (by decide))
      rw [← this, show i * 17 + c % 17 = c by omega]
    · rw [if_neg hci, getD_set_ne' _ _ (Ne.symm hci), hf c (by omega)]
      exact hcc
  · intro k hk
    show SessIs W' (updM A.q i q' k) ((M.sess.set i x').getD k noSess)
    unfold updM
    by_cases hki : k = i
    · subst hki; rw [if_pos rfl, getD_set_eq _ _ (by omega)]; exact hx
    · rw [if_neg hki, getD_set_ne' _ _ (Ne.symm hki)]
      exact (h.is.sess.2.2.2 k hk).keep ht.size fun j hj h0 b' o e => by
        have hk' : k < A.s.n := hk
        exact kp (6 + 3 * k + j) (by omega) (by omega) (by rw [A.sl_q k hj]; exact h0) b' o (by rw [A.sl_q k hj]; exact e)
  · have := h.is.trace.keep ht.size fun h0 b' o e => kp 5 (by omega) (by omega) (by rw [A.sl_e]; exact h0) b' o (by rw [A.sl_e]; exact e)
    exact this
  · intro j hj
    rw [A.num_setQ] at hj
    rw [A.sl_setQ]
    split
    · exact ho _ (Nat.mod_lt _ (by decide))
    · intro h0
      obtain ⟨b2, e2, h1, l, hl⟩ := h.own j hj h0
      by_cases hbb : b2 = b
      · subst hbb; exact ⟨b2, e2, h1, hB⟩
      · exact ⟨b2, e2, h1, l, hl.touch ht (by omega)⟩
  · intro k j hkj hj hk0 hj0
    rw [A.num_setQ] at hj
    by_cases cj : 6 ≤ j ∧ (j - 6) / 3 = i
    · have e : (A.setQ i q').sl j = q'.sl ((j - 6) % 3) := by rw [A.sl_setQ, if_pos cj]
      rw [e] at hj0 ⊢
      exact ha _ k (Nat.mod_lt _ (by decide)) (by omega) (by omega) hj0 hk0
    · by_cases ck : 6 ≤ k ∧ (k - 6) / 3 = i
      · have e : (A.setQ i q').sl k = q'.sl ((k - 6) % 3) := by rw [A.sl_setQ, if_pos ck]
        rw [e] at hk0 ⊢
        exact (ha _ j (Nat.mod_lt _ (by decide)) hj (by omega) hk0 hj0).symm
      · have e1 : (A.setQ i q').sl j = A.sl j := by rw [A.sl_setQ, if_neg cj]
        have e2 : (A.setQ i q').sl k = A.sl k := by rw [A.sl_setQ, if_neg ck]
        rw [e1] at hj0 ⊢
        rw [e2] at hk0 ⊢
        exact h.apart k j hkj hj hk0 hj0
  · obtain ⟨v, hv, hown, hb5⟩ := h.trace
    have nb : ∀ g, v.ownBlock = some g → g ≠ b := fun g hg hgb => (hb5 g hg).2 4 (by omega) (by decide) (by rw [A.sl_s]; omega) (by rw [A.sl_s, hb, hgb])
    refine ⟨v, hv, ownsRow_keep hown fun g hg => keepB g (nb g hg) (hown.lt g hg).2, fun g hg => ⟨(hb5 g hg).1, fun j hj hj5 h0 => ?_⟩⟩
    by_cases cj : 6 ≤ j ∧ (j - 6) / 3 = i
    · have e1 : (A.setQ i q').sl j = q'.sl ((j - 6) % 3) := by rw [A.sl_setQ, if_pos cj]
      rw [e1] at h0 ⊢
      exact ht5 v hv g hg _ (Nat.mod_lt _ (by decide)) h0
    · have e1 : (A.setQ i q').sl j = A.sl j := by rw [A.sl_setQ, if_neg cj]
      rw [e1] at h0 ⊢
      exact (hb5 g hg).2 j hj hj5 h0
/-- Two of its lists lie apart. -/
theorem MachOwn.ne (h : MachOwn D W A M) {j k : Nat} (hjk : j ≠ k) (hj : j < A.num) (hk : k < A.num) (h0 : 0 < (A.sl j).n) (h1 : 0 < (A.sl k).n) : (A.sl j).a ≠ (A.sl k).a := by
  rcases Nat.lt_or_gt_of_ne hjk with hl | hl
  · exact h.apart j k hl hk h0 h1
  · exact (h.apart k j hl hj h1 h0).symm
theorem lz_set {l : List Int} {k m : Nat} {v : Int} (hk : k < l.length) : lz (l.set k v) m = if m = k then v else lz l m := by
  unfold lz
  by_cases h : m = k
  · subst h; rw [if_pos rfl, getD_set_eq _ _ hk]
  · rw [if_neg h, getD_set_ne' _ _ (Ne.symm h)]
theorem sessOf_setN {q : SesM} {x : PSess} (hx : x.num.length = 14) {k : Nat} (hk : k < 14) (v : Int) : sessOf q (x.setN k v) = (sessOf q x).set (posN k) (.int .i64 v) := by
  unfold sessOf PSess.setN sessL
  have : k = 0 ∨ k = 1 ∨ k = 2 ∨ k = 3 ∨ k = 4 ∨ k = 5 ∨ k = 6 ∨ k = 7 ∨ k = 8 ∨ k = 9 ∨ k = 10 ∨ k = 11 ∨ k = 12 ∨ k = 13 := by omega
  rcases this with rfl | rfl | rfl | rfl | rfl | rfl | rfl | rfl | rfl | rfl | rfl | rfl | rfl | rfl <;> simp [lz_set, hx, posN]
theorem sessOf_len (q : SesM) (x : PSess) : (sessOf q x).length = 17 := rfl
theorem getD_set (l : List Value) (o j : Nat) (v : Value) (h : o < l.length) : (l.set o v).getD j undef = if j = o then v else l.getD j undef := by
  by_cases e : j = o
  · subst e; rw [if_pos rfl, getD_set_eq _ _ h]
  · rw [if_neg e, getD_set_ne' _ _ (Ne.symm e)]
/-- A session's lists lie apart from all others. -/
theorem MachOwn.sesApart (h : MachOwn D W A M) {i : Nat} (hi' : i < A.s.n) : ∀ j k, j < 3 → k < A.num → k ≠ 6 + 3 * i + j → 0 < ((A.q i).sl j).n → 0 < ((A.setQ i (A.q i)).sl k).n → ((A.setQ i (A.q i)).sl k).a ≠ ((A.q i).sl j).a := fun j k hj hk hkj h0 h1 => by
  rw [A.setQ_self] at h1 ⊢
  have hn : 6 + 3 * i + j < A.num := by unfold MacM.num; omega
  have := h.ne hkj hk hn h1 (by rw [A.sl_q i hj]; exact h0)
  rw [A.sl_q i hj] at this
  exact this
theorem MachOwn.ses5 (h : MachOwn D W A M) {i : Nat} (hi' : i < A.s.n) : ∀ v, v = A.e.v → ∀ g, v.ownBlock = some g → ∀ j, j < 3 → 0 < ((A.q i).sl j).n → ((A.q i).sl j).a ≠ some ⟨g, 0, none⟩ := fun v hv g hg j hj h0 => by
  obtain ⟨v', hv', _, hb5⟩ := h.trace
  subst hv; subst hv'
  have := (hb5 g hg).2 (6 + 3 * i + j) (by unfold MacM.num; omega) (by omega) (by rw [A.sl_q i hj]; exact h0)
  rw [A.sl_q i hj] at this
  exact this
/-- One cell of a session is written over. -/
theorem MachOwn.cellTurn (h : MachOwn D W A M) {i b o : Nat} (hi' : i < A.s.n) (hb : A.s.a = some ⟨b, 0, none⟩) (ho : o < 17) (v : Value) :
    Touch b (b + 1) W (W.setCell ⟨b, i * 17 + o, none⟩ v) ∧ (∃ l, Blk (W.setCell ⟨b, i * 17 + o, none⟩ v) b l) ∧ (∀ j, j < 17 → (W.setCell ⟨b, i * 17 + o, none⟩ v).cell? ⟨b, i * 17 + j, none⟩ = some (((sessOf (A.q i) (M.at i)).set o v).getD j undef)) ∧ (∀ p, p < i * 17 ∨ i * 17 + 17 ≤ p → (W.setCell ⟨b, i * 17 + o, none⟩ v).cell? ⟨b, p, none⟩ = W.cell? ⟨b, p, none⟩) := by
  obtain ⟨b2, e2, _, l, hl⟩ := h.sblk hi'
  rw [hb] at e2; cases e2
  have c0 : ∀ j, j < 17 → W.cell? ⟨b, i * 17 + j, none⟩ = some ((sessOf (A.q i) (M.at i)).getD j undef) := fun j hj => by
    obtain ⟨b3, off, e3, _, hc⟩ := h.is.sess.cell hi' hj
    rw [hb] at e3; cases e3
    rw [Nat.zero_add] at hc
    exact hc
  refine ⟨(Touch.refl b (b + 1) W).setCell (a := ⟨b, i * 17 + o, none⟩) (Nat.le_refl b) (Nat.lt_succ_self b) v, ⟨_, hl.set (i * 17 + o) v⟩, fun j hj => ?_, fun p hp => ?_⟩
  · rw [getD_set _ _ _ _ (by rw [sessOf_len]; exact ho)]
    by_cases e : j = o
    · subst e; rw [if_pos rfl]; exact World.cell?_setCell_same _ _ _ (c0 j hj)
    · rw [if_neg e, World.cell?_setCell_other _ _ _ _ (fun he => by simp only [Addr.mk.injEq] at he; omega)]; exact c0 j hj
  · exact World.cell?_setCell_other _ _ _ _ (fun he => by simp only [Addr.mk.injEq] at he; omega)
/-- A number of a session is written. -/
theorem MachOwn.turnN (h : MachOwn D W A M) {i b k : Nat} (hi' : i < A.s.n) (hb : A.s.a = some ⟨b, 0, none⟩) (hk : k < 14) (v : Int) :
    MachOwn D (W.setCell ⟨b, i * 17 + posN k, none⟩ (.int .i64 v)) A (M.setS i ((M.at i).setN k v)) := by
  have hp : posN k < 17 := by unfold posN; split <;> (try split) <;> omega
  obtain ⟨t1, t2, t3, t4⟩ := h.cellTurn hi' hb hp (.int .i64 v)
  have hs : SessIs W (A.q i) (M.at i) := h.is.sess.2.2.2 i hi'
  have := h.turn hi' hb (A.q i) ((M.at i).setN k v) t1 t2 (fun j hj => by rw [sessOf_setN hs.1 hk]; exact t3 j hj) t4 ?_ ?_ (h.sesApart hi') (h.ses5 hi')
  · rw [A.setQ_self] at this; exact this
  · have hx : SessIs (W.setCell ⟨b, i * 17 + posN k, none⟩ (.int .i64 v)) (A.q i) (M.at i) := hs.keep t1.size fun j hj h0 b' o e => by
      have hn : 6 + 3 * i + j < A.num := by unfold MacM.num; omega
      have hne := h.ne (j := 6 + 3 * i + j) (k := 4) (by omega) hn (by unfold MacM.num; omega) (by rw [A.sl_q i hj]; exact h0) (by rw [A.sl_s]; omega)
      rw [A.sl_q i hj, A.sl_s, hb, e] at hne
      obtain ⟨b2, e2, _, l, hl⟩ := h.own _ hn (by rw [A.sl_q i hj]; exact h0)
      rw [A.sl_q i hj, e] at e2
      cases e2
      exact t1.block b' (by simp at hne; omega) hl.lt
    exact ⟨by unfold PSess.setN; rw [List.length_set]; exact hx.1, hx.2⟩
  · intro j hj h0
    have hn : 6 + 3 * i + j < A.num := by unfold MacM.num; omega
    obtain ⟨b2, e2, h1, l, hl⟩ := h.own _ hn (by rw [A.sl_q i hj]; exact h0)
    rw [A.sl_q i hj] at e2
    by_cases hbb : b2 = b
    · subst hbb; exact ⟨b2, e2, h1, t2⟩
    · exact ⟨b2, e2, h1, l, hl.touch t1 (by omega)⟩
theorem lz_left {l m : List Int} {i : Nat} (h : i < l.length) : lz (l ++ m) i = lz l i := by simp [lz, List.getD, List.getElem?_append_left h]
theorem lz_right {l m : List Int} {i : Nat} (h : l.length ≤ i) : lz (l ++ m) i = lz m (i - l.length) := by simp [lz, List.getD, List.getElem?_append_right h]
/-- The trace grows. -/
def MacM.setE (A : MacM) (e : Sl) : MacM := { A with e := e }
theorem MacM.num_setE (A : MacM) (e : Sl) : (A.setE e).num = A.num := rfl
theorem MacM.sl_setE (A : MacM) (e : Sl) (j : Nat) : (A.setE e).sl j = if j = 5 then e else A.sl j := by
  unfold MacM.sl MacM.setE
  by_cases h1 : j < 4
  · rw [if_pos h1, if_pos h1, if_neg (by omega)]
  · rw [if_neg h1, if_neg h1]
    by_cases h2 : j = 4
    · rw [if_pos h2, if_pos h2, if_neg (by omega)]
    · rw [if_neg h2, if_neg h2]
      by_cases h3 : j = 5
      · rw [if_pos h3, if_pos h3]
      · rw [if_neg h3, if_neg h3, if_neg h3]
theorem MachOwn.traced (h : MachOwn D W A M) {v : Value} (hv : v = A.e.v) (hg : W.grownBy W' v.ownBlock) {g cap : Nat} {x : List Int} (hx : x.length = 4) (hn : A.e.n < 512)
    (ho : W'.ownsRow 0 88 4 (.slice (some ⟨g, 0, none⟩) (A.e.n + 1) cap) (A.e.n + 1) (rowL (intF (lz M.trace)) (A.e.n * 4) ++ x.map (Value.int .i64))) (hat : v.ownBlock = some g ∨ W.heap.size ≤ g) :
    MachOwn (fun k => D k ∨ k = g) W' (A.setE ⟨some ⟨g, 0, none⟩, A.e.n + 1, cap⟩) { M with trace := M.trace ++ x } := by
  obtain ⟨v', hv', ho5, hb5⟩ := h.trace
  subst hv; subst hv'
  have nn : A.num = 6 + 3 * A.s.n := rfl
  have hlen := h.is.trace.1
  have blt : ∀ j, j < A.num → 0 < (A.sl j).n → ∀ b o, (A.sl j).a = some ⟨b, o, none⟩ → b < W.heap.size := fun j hj h0 b o e => by
    obtain ⟨b2, e2, _, l, hl⟩ := h.own j hj h0
    rw [e2] at e; cases e; exact hl.lt
  have kp : ∀ j, j < A.num → j ≠ 5 → 0 < (A.sl j).n → ∀ b o, (A.sl j).a = some ⟨b, o, none⟩ → W'.heap[b]? = W.heap[b]? := fun j hj hj5 h0 b o e => by
    refine hg.block b (blt j hj h0 b o e) fun hr => ?_
    obtain ⟨b2, e2, _⟩ := h.own j hj h0
    rw [e2] at e; cases e
    exact (hb5 _ hr.symm).2 j hj hj5 h0 e2
  have gne : ∀ j, j < A.num → j ≠ 5 → 0 < (A.sl j).n → (A.sl j).a ≠ some ⟨g, 0, none⟩ := fun j hj hj5 h0 e => by
    rcases hat with hat | hat
    · exact (hb5 g hat).2 j hj hj5 h0 e
    · have := blt j hj h0 g 0 e; omega
  have hL : rowL (intF (lz M.trace)) (A.e.n * 4) ++ x.map (Value.int .i64) = rowL (intF (lz (M.trace ++ x))) ((A.e.n + 1) * 4) := by
    apply List.ext_getElem?
    intro i
    by_cases h1 : i < A.e.n * 4
    · rw [List.getElem?_append_left (by rw [rowL_len]; exact h1), rowL_get h1, rowL_get (by omega)]
      unfold intF
      rw [lz_left (by rw [hlen]; exact h1)]
    · rw [List.getElem?_append_right (by rw [rowL_len]; omega), rowL_len]
      by_cases h2 : i < (A.e.n + 1) * 4
      · rw [rowL_get h2]
        unfold intF
        rw [lz_right (by rw [hlen]; omega), hlen]
        have : i - A.e.n * 4 < x.length := by omega
        simp [lz, List.getD, this]
      · rw [rowL_none (by omega)]
        simp; omega
  rw [hL] at ho
  have own' : Own W' g ((A.e.n + 1) * 4) (intF (lz (M.trace ++ x))) := by
    rcases own_of_owns ho with ⟨e, _⟩ | ⟨g2, c2, e, _, _, _, o⟩
    · cases e
    · cases e; exact o
  have hcap : A.e.n + 1 ≤ cap := by
    rcases ho.2 with ⟨e, _⟩ | ⟨g2, c2, cur, e, _, _, hn2, _⟩
    · cases e
    · cases e; exact hn2
  refine ⟨⟨h.is.four, h.is.clocks, fun k hk => ?_, ⟨h.is.sess.1, h.is.sess.2.1, ?_, fun i hi => ?_⟩, ⟨?_, ⟨?_, hcap, fun e => by cases e⟩, own'.row⟩⟩, fun j hj => ?_, fun i j hij hj h0 h1 => ?_, ⟨.slice (some ⟨g, 0, none⟩) (A.e.n + 1) cap, rfl, ho, fun g' hg' => ?_⟩⟩
  · exact (h.is.words k hk).keep hg.size fun h0 b o e => kp k (by omega) (by omega) (by rw [A.sl_w hk]; exact h0) b o (by rw [A.sl_w hk]; exact e)
  · exact h.is.sess.2.2.1.keep hg.size fun h0 b o e => kp 4 (by omega) (by omega) (by rw [A.sl_s]; exact Nat.pos_of_mul_pos_right h0) b o (by rw [A.sl_s]; exact e)
  · have hi' : i < A.s.n := hi
    exact (h.is.sess.2.2.2 i hi).keep hg.size fun j hj h0 b o e => kp (6 + 3 * i + j) (by omega) (by omega) (by rw [A.sl_q i hj]; exact h0) b o (by rw [A.sl_q i hj]; exact e)
  · show (M.trace ++ x).length = (A.e.n + 1) * 4
    rw [List.length_append, hlen, hx]; omega
  · show (A.e.n + 1) * _ ≤ _
    omega
  · rw [A.num_setE] at hj
    rw [A.sl_setE]
    split
    · exact fun _ => by
        obtain ⟨l, hl, _⟩ := own'
        exact ⟨g, rfl, .inr rfl, l, hl⟩
    · rename_i hj5
      intro h0
      obtain ⟨b2, e2, h1, l, t, hl⟩ := h.own j hj h0
      exact ⟨b2, e2, .inl h1, l, t, by rw [kp j hj hj5 h0 b2 0 e2]; exact hl⟩
  · rw [A.num_setE] at hj
    by_cases i5 : i = 5
    · have e1 : (A.setE ⟨some ⟨g, 0, none⟩, A.e.n + 1, cap⟩).sl i = ⟨some ⟨g, 0, none⟩, A.e.n + 1, cap⟩ := by rw [A.sl_setE, if_pos i5]
      have e2 : (A.setE ⟨some ⟨g, 0, none⟩, A.e.n + 1, cap⟩).sl j = A.sl j := by rw [A.sl_setE, if_neg (by omega)]
      rw [e1]; rw [e2] at h1 ⊢
      exact (gne j hj (by omega) h1).symm
    · have e1 : (A.setE ⟨some ⟨g, 0, none⟩, A.e.n + 1, cap⟩).sl i = A.sl i := by rw [A.sl_setE, if_neg i5]
      rw [e1] at h0 ⊢
      by_cases j5 : j = 5
      · have e2 : (A.setE ⟨some ⟨g, 0, none⟩, A.e.n + 1, cap⟩).sl j = ⟨some ⟨g, 0, none⟩, A.e.n + 1, cap⟩ := by rw [A.sl_setE, if_pos j5]
        rw [e2]
        exact gne i (by omega) i5 h0
      · have e2 : (A.setE ⟨some ⟨g, 0, none⟩, A.e.n + 1, cap⟩).sl j = A.sl j := by rw [A.sl_setE, if_neg j5]
        rw [e2] at h1 ⊢
        exact h.apart i j hij hj h0 h1
  · obtain rfl : g = g' := by simpa [Value.ownBlock] using hg'
    refine ⟨.inr rfl, fun j hj hj5 h0 => ?_⟩
    have e2 : (A.setE ⟨some ⟨g, 0, none⟩, A.e.n + 1, cap⟩).sl j = A.sl j := by rw [A.sl_setE, if_neg hj5]
    rw [e2] at h0 ⊢
    exact gne j hj hj5 h0
theorem MachIs.scell (h : MachIs W A M) {i b : Nat} (hi' : i < A.s.n) (j : Nat) (hj : j < 17) {v : Value} (hv : (sessOf (A.q i) (M.at i))[j]? = some v) (hb : A.s.a = some ⟨b, 0, none⟩) : W.cell? ⟨b, i * 17 + j, none⟩ = some v := by
  obtain ⟨b2, off, e2, _, hc⟩ := h.sess.cell hi' hj
  rw [hb] at e2; cases e2
  rw [Nat.zero_add] at hc
  rw [hc]
  show some ((sessOf (A.q i) (M.at i)).getD j undef) = _
  rw [List.getD_eq_getElem?_getD, hv]
  rfl
end
/-- An event is appended to a machine's own trace. -/
theorem stw_event {w0 w : World} {L : List Itm} {P : Program} {op : Oper} {a : Act} {K : Act → World → Prop} {Q : Exit → Act → World → Prop} (HS : Hid (St w0 w L)) (j i : Nat) {D : Nat → Prop} {A : MacM} {M : PMach} {be : Nat} {x : List Int} (ej : L[j]? = some (blkI be (x.map (Value.int .i64)))) (hx4 : x.length = 4) (ei : L[i]? = some (machI D A M)) (hn : A.e.n < 512)
    (s y : Operand) (t : TypeId) (ho : op.op = .call { callee := .builtin .append, args := #[s, y], argTypes := #[t, t] }) (ie : TypeInfo) (z : Value) (ht : P.underlying t = some (.slice 88)) (hi : P.info? 88 = some ie) (hz : ie.zero = some z) (hsize : ie.size = 4) (hby : ie.bytes = 32) (hzs : z.cells.size = 4)
    (hs : a.eval s = .slice A.e.a A.e.n A.e.c) (hy : a.eval y = .slice (some ⟨be, 0, none⟩) 1 1)
    (h : ∀ W D' g cap, Hid (St w0 W (L.set i (machI D' (A.setE ⟨some ⟨g, 0, none⟩, A.e.n + 1, cap⟩) { M with trace := M.trace ++ x }))) → K (a.put op.dst (.slice (some ⟨g, 0, none⟩) (A.e.n + 1) cap)) W) : op.wp P a w K Q := by
  have hM : MachOwn D w A M := HS.out.get i ei
  obtain ⟨_, rfl, ho5, hb5⟩ := hM.trace
  have B := HS.out.blk j ej
  refine wp_append_lies w s y t ho 0 88 ie z 4 32 ht hi hz hsize hby hzs (by decide) A.e.v A.e.n _ hs ho5 ⟨be, 0, none⟩ 1 1 (x.map (Value.int .i64)) hy (by simp [hx4]) (fun k u hk => ?_) (fun u hu => ?_) (by decide) (by unfold maxLen; omega) (by omega) (Nat.zero_le _) w.heap.size rfl fun g cap W' hown hgrow hat hlt => ?_
  · have hadd : (⟨be, 0, none⟩ : Addr).add k = ⟨be, k, none⟩ := by unfold Addr.add; split <;> simp_all
    rw [hadd]
    exact B.cell k u hk
  · obtain ⟨q, _, rfl⟩ := List.mem_map.1 hu
    rfl
  · refine h W' (fun k => D k ∨ k = g) g cap (HS.out.set i ei (machI (fun k => D k ∨ k = g) (A.setE ⟨some ⟨g, 0, none⟩, A.e.n + 1, cap⟩) { M with trace := M.trace ++ x }) (chg_grown hgrow fun g' hg' => (hb5 g' hg').1) (machI_loc _ _ _) (hM.traced rfl hgrow hx4 hn hown (hat.imp id fun e => by omega)) fun k hk => ?_)
    rcases hk with hk | rfl
    · exact .inl hk
    · rcases hat with hat | hat
      · exact .inl (hb5 k hat).1
      · exact .inr ⟨by omega, hlt⟩
section
variable {D : Nat → Prop} {W W' : World} {A : MacM} {M : PMach}
end
end Go.Proofs.YtnjognmnbpcaaaaGreat
namespace Go.Proofs.YtnjognmnbpcaaaaGreat
/-- Are the first n of two rows of numbers the same? -/
def eqTo (z y : Nat → Int) : Nat → Bool
  | 0 => true
  | k + 1 => eqTo z y k && (z k == y k)
theorem eqTo_mk {z y : Nat → Int} : ∀ {n : Nat}, (∀ i, i < n → z i = y i) → eqTo z y n = true
  | 0, _ => rfl
  | n + 1, h => by rw [eqTo, eqTo_mk fun i hi => h i (by omega), h n (by omega)]; simp
theorem eqTo_get {z y : Nat → Int} : ∀ {n : Nat}, eqTo z y n = true → ∀ i, i < n → z i = y i
  | 0, _, i, hi => absurd hi (Nat.not_lt_zero _)
  | n + 1, h, i, hi => by
    simp only [eqTo, Bool.and_eq_true, beq_iff_eq] at h
    by_cases e : i = n
    · subst e; exact h.2
    · exact eqTo_get h.1 i (by omega)
theorem eqTo_no {z y : Nat → Int} {n : Nat} (i : Nat) (hi : i < n) (h : z i ≠ y i) : eqTo z y n = false := by
  cases e : eqTo z y n with
  | false => rfl
  | true => exact absurd (eqTo_get e i hi) h
end Go.Proofs.YtnjognmnbpcaaaaGreat
namespace Go.Proofs.YtnjognmnbpcaaaaGreat
open Go.RowKit
/-- One of a row of words: its three cells. -/
theorem Row.at3 {w : World} {a : Option Addr} {n : Nat} {f : Nat → Value} (h : Row w a (n * 3) f) (k : Nat) (hk : k < n) :
    ∃ b off, a = some ⟨b, off, none⟩ ∧ b < w.heap.size ∧ w.cell? ⟨b, off + k * 3, none⟩ = some (f (k * 3)) ∧ w.cell? ⟨b, off + k * 3 + 1, none⟩ = some (f (k * 3 + 1)) ∧ w.cell? ⟨b, off + k * 3 + 2, none⟩ = some (f (k * 3 + 2)) := by
  obtain ⟨b, off, rfl, hb, c0⟩ := h (k * 3) (by omega)
  obtain ⟨_, _, e, _, c1⟩ := h (k * 3 + 1) (by omega)
  obtain ⟨_, _, e2, _, c2⟩ := h (k * 3 + 2) (by omega)
  simp only [Option.some.injEq, Addr.mk.injEq] at e e2
  obtain ⟨rfl, rfl, _⟩ := e
  obtain ⟨rfl, rfl, _⟩ := e2
  exact ⟨b, off, rfl, hb, c0, c1, c2⟩
end Go.Proofs.YtnjognmnbpcaaaaGreat
namespace Go.Proofs.YtnjognmnbpcaaaaGreat
open Go.RowKit
set_option maxHeartbeats 1000000 in
theorem sameWords_any (a a' : Option Addr) (n c n' c' : Nat) (z y : Nat → Int) (w : World) (hn : n ≤ 1152921504606846976) (h : Row w a (n * 3) fun i => .int .i64 (z i)) (h' : Row w a' (n' * 3) fun i => .int .i64 (y i)) :
    Calls Tryz.prog 53 #[.slice a n c, .slice a' n' c'] w fun e w' => e = .returned (.bool (decide (n = n') && eqTo z y (n * 3))) ∧ ∃ q, w' = w.drewN q := by
  by_cases hnn : n = n'
  · subst hnn
    have hne : ((n : Int) != (n : Int)) = false := by simp
    go_enter Tryz.func53, Tryz.ntmps53
    go_wp2
    go_loopw [5] (fun i wr => ∃ k : Nat, k ≤ n ∧ i = .int .i64 k ∧ eqTo z y (k * 3) = true ∧ ∃ q, wr = w.drewN q) (fun i _ => n - (intOf i).toNat)
    case atStart => exact ⟨0, Nat.zero_le _, rfl, rfl, 0, rfl⟩
    case round =>
      obtain ⟨k, hk, rfl, hs, hq⟩ := hrel
      have HQ : Hid (∃ q, wr = w.drewN q) := hq
      replace h : Row wr a (n * 3) fun i => .int .i64 (z i) := by obtain ⟨q, rfl⟩ := hq; exact h
      replace h' : Row wr a' (n * 3) fun i => .int .i64 (y i) := by obtain ⟨q, rfl⟩ := hq; exact h'
      have HS : Hid (eqTo z y (k * 3) = true) := hs
      clear hs hq
      by_cases hlt : k < n
      · obtain ⟨b, off, rfl, hb, c0, c1, c2⟩ := h.at3 k hlt
        obtain ⟨b', off', rfl, hb', d0, d1, d2⟩ := h'.at3 k hlt
        clear h h'
        have i1 : (k : Int) < (n : Int) := by omega
        by_cases v0 : z (k * 3) = y (k * 3)
        · by_cases v1 : z (k * 3 + 1) = y (k * 3 + 1)
          · by_cases v2 : z (k * 3 + 2) = y (k * 3 + 2)
            · have HE : Hid (eqTo z y ((k + 1) * 3) = true) := by
                show eqTo z y ((k + 1) * 3) = true
                rw [show (k + 1) * 3 = k * 3 + 1 + 1 + 1 by omega, eqTo, eqTo, eqTo, HS.out, v0, v1, v2]
                simp
              go_wp2
              go_quiet (fail)
              go_wp2
              go_roundw
              case rel => exact ⟨k + 1, by omega, by go_num, HE.out, drewN_on HQ.out _⟩
              case measure => simp [intOf]; omega
            · have HV : Hid (z (k * 3 + 2) ≠ y (k * 3 + 2)) := v2
              go_wp2
              go_quiet (fail)
              go_wp2
              go_ret
              exact ⟨ret_bool (by simp [eqTo_no (n := n * 3) (k * 3 + 2) (by omega) HV.out]), drewN_on HQ.out _⟩
          · have HV : Hid (z (k * 3 + 1) ≠ y (k * 3 + 1)) := v1
            go_wp2
            go_quiet (fail)
            go_wp2
            go_ret
            exact ⟨ret_bool (by simp [eqTo_no (n := n * 3) (k * 3 + 1) (by omega) HV.out]), drewN_on HQ.out _⟩
        · have HV : Hid (z (k * 3) ≠ y (k * 3)) := v0
          go_wp2
          go_quiet (fail)
          go_wp2
          go_ret
          exact ⟨ret_bool (by simp [eqTo_no (n := n * 3) (k * 3) (by omega) HV.out]), drewN_on HQ.out _⟩
      · obtain rfl : k = n := by omega
        clear h h'
        go_wp2
        go_ret
        exact ⟨ret_bool (by simp [HS.out]), HQ.out⟩
  · have hne : ((n : Int) != (n' : Int)) = true := by simp; omega
    have HN : Hid (n ≠ n') := hnn
    clear hnn h h'
    go_enter Tryz.func53, Tryz.ntmps53
    go_wp2
    go_ret
    exact ⟨ret_bool (by simp [HN.out]), 0, rfl⟩
end Go.Proofs.YtnjognmnbpcaaaaGreat
namespace Go.Proofs.YtnjognmnbpcaaaaGreat
open Go.RowKit
/-- An arena's value: the four slices. -/
def arenaA (s : Nat → Sl) : Value := .agg #[.slice (s 0).a (s 0).n (s 0).c, .slice (s 1).a (s 1).n (s 1).c, .slice (s 2).a (s 2).n (s 2).c, .slice (s 3).a (s 3).n (s 3).c]
/-- The cells of that value. -/
def arenaL (s : Nat → Sl) : List Value := [.slice (s 0).a (s 0).n (s 0).c, .slice (s 1).a (s 1).n (s 1).c, .slice (s 2).a (s 2).n (s 2).c, .slice (s 3).a (s 3).n (s 3).c]
theorem arenaL_get (s : Nat → Sl) {k : Nat} (hk : k < 4) : (arenaL s)[k]? = some (.slice (s k).a (s k).n (s k).c) := by
  have : k = 0 ∨ k = 1 ∨ k = 2 ∨ k = 3 := by omega
  rcases this with rfl | rfl | rfl | rfl <;> rfl
/-- The words of an arena lie there. -/
def Arn (w : World) (s : Nat → Sl) (z : Nat → Nat → Int) : Prop := ∀ g, g < 4 → Row w (s g).a ((s g).n * 3) fun i => .int .i64 (z g i)
theorem Arn.below {w w' : World} {B : Nat} {s : Nat → Sl} {z : Nat → Nat → Int} (h : Arn w s z) (hb : Below B w w') (hB : w.heap.size ≤ B) : Arn w' s z := fun g hg => (h g hg).below hb hB
theorem Arn.drewN {w : World} {s : Nat → Sl} {z : Nat → Nat → Int} (h : Arn w s z) (k : Nat) : Arn (w.drewN k) s z := h
/-- No level is longer than a machine could hold. -/
def Short (s : Nat → Sl) : Prop := ∀ g, g < 4 → (s g).n ≤ 1152921504606846976
/-- Are the first k levels of two arenas the same? -/
def sameLv (s s' : Nat → Sl) (z z' : Nat → Nat → Int) : Nat → Bool
  | 0 => true
  | k + 1 => sameLv s s' z z' k && (decide ((s k).n = (s' k).n) && eqTo (z k) (z' k) ((s k).n * 3))
theorem sameLv_no {s s' : Nat → Sl} {z z' : Nat → Nat → Int} (k : Nat) (h : (decide ((s k).n = (s' k).n) && eqTo (z k) (z' k) ((s k).n * 3)) = false) : ∀ {m : Nat}, k < m → sameLv s s' z z' m = false
  | 0, hk => absurd hk (Nat.not_lt_zero _)
  | m + 1, hk => by
    by_cases e : k = m
    · subst e; rw [sameLv, h, Bool.and_false]
    · rw [sameLv, sameLv_no k h (by omega), Bool.false_and]
theorem sameLv_mk {s s' : Nat → Sl} {z z' : Nat → Nat → Int} : ∀ {m : Nat}, (∀ g, g < m → (s g).n = (s' g).n ∧ ∀ i, i < (s g).n * 3 → z g i = z' g i) → sameLv s s' z z' m = true
  | 0, _ => rfl
  | m + 1, h => by
    rw [sameLv, sameLv_mk fun g hg => h g (by omega), decide_eq_true (h m (by omega)).1, eqTo_mk (h m (by omega)).2]
    rfl
/-- May the first k words of a row be? -/
def wordsTo (z : Nat → Int) : Nat → Bool
  | 0 => true
  | k + 1 => wordsTo z k && wmay (z (k * 3)) (z (k * 3 + 1)) (z (k * 3 + 2))
/-- May a level be: at most four words, each may be? -/
def lvMay (n : Nat) (z : Nat → Int) : Bool := decide (n ≤ 4) && wordsTo z n
/-- May the first k levels be? -/
def lvTo (s : Nat → Sl) (z : Nat → Nat → Int) : Nat → Bool
  | 0 => true
  | k + 1 => lvTo s z k && lvMay (s k).n (z k)
/-- May it be an arena? -/
def amay (s : Nat → Sl) (z : Nat → Nat → Int) : Bool := lvTo s z 4
theorem wordsTo_get {z : Nat → Int} : ∀ {n : Nat}, wordsTo z n = true → ∀ i, i < n → wmay (z (i * 3)) (z (i * 3 + 1)) (z (i * 3 + 2)) = true
  | 0, _, i, hi => absurd hi (Nat.not_lt_zero _)
  | n + 1, h, i, hi => by
    simp only [wordsTo, Bool.and_eq_true] at h
    by_cases e : i = n
    · subst e; exact h.2
    · exact wordsTo_get h.1 i (by omega)
theorem wordsTo_no {z : Nat → Int} {n : Nat} (i : Nat) (hi : i < n) (h : wmay (z (i * 3)) (z (i * 3 + 1)) (z (i * 3 + 2)) = false) : wordsTo z n = false := by
  cases e : wordsTo z n with
  | false => rfl
  | true => rw [wordsTo_get e i hi] at h; cases h
theorem lvTo_get {s : Nat → Sl} {z : Nat → Nat → Int} : ∀ {n : Nat}, lvTo s z n = true → ∀ i, i < n → lvMay (s i).n (z i) = true
  | 0, _, i, hi => absurd hi (Nat.not_lt_zero _)
  | n + 1, h, i, hi => by
    simp only [lvTo, Bool.and_eq_true] at h
    by_cases e : i = n
    · subst e; exact h.2
    · exact lvTo_get h.1 i (by omega)
theorem lvTo_no {s : Nat → Sl} {z : Nat → Nat → Int} {n : Nat} (i : Nat) (hi : i < n) (h : lvMay (s i).n (z i) = false) : lvTo s z n = false := by
  cases e : lvTo s z n with
  | false => rfl
  | true => rw [lvTo_get e i hi] at h; cases h
theorem lvMay_mk {n : Nat} {z : Nat → Int} (h : n ≤ 4) (h' : wordsTo z n = true) : lvMay n z = true := by
  rw [lvMay, decide_eq_true h, h']; rfl
theorem lvMay_long {n : Nat} {z : Nat → Int} (h : 4 < n) : lvMay n z = false := by
  rw [lvMay, decide_eq_false (by omega)]; rfl
theorem lvMay_bad {n : Nat} {z : Nat → Int} (i : Nat) (hi : i < n) (h : wmay (z (i * 3)) (z (i * 3 + 1)) (z (i * 3 + 2)) = false) : lvMay n z = false := by
  rw [lvMay, wordsTo_no i hi h, Bool.and_false]
/-- Is there such a word? -/
def thereV (s : Nat → Sl) (l i : Int) : Bool := decide ((0 ≤ l ∧ l < 4) ∧ 0 ≤ i ∧ i < ((s l.toNat).n : Int))
theorem thereV_get {s : Nat → Sl} {l i : Int} (h : thereV s l i = true) : ∃ (g k : Nat), l = g ∧ i = k ∧ g < 4 ∧ k < (s g).n := by
  have := of_decide_eq_true h
  obtain ⟨⟨h0, h1⟩, h2, h3⟩ := this
  refine ⟨l.toNat, i.toNat, by omega, by omega, by omega, by omega⟩
/-- A row with another word in a place. -/
def putR (z : Nat → Int) (i : Nat) (v n k : Int) (j : Nat) : Int := if j = i * 3 + 2 then k else if j = i * 3 + 1 then n else if j = i * 3 then v else z j
/-- Four lists of values lie there. -/
def Vals (w : World) (v : Nat → Sl) (y : Nat → Nat → Int) : Prop := ∀ g, g < 4 → Row w (v g).a (v g).n fun i => .int .i64 (y g i)
theorem Vals.below {w w' : World} {B : Nat} {v : Nat → Sl} {y : Nat → Nat → Int} (h : Vals w v y) (hb : Below B w w') (hB : w.heap.size ≤ B) : Vals w' v y := fun g hg => (h g hg).below hb hB
/-- May the first k values be? -/
def valsTo (y : Nat → Int) : Nat → Bool
  | 0 => true
  | k + 1 => valsTo y k && upToV (y k) 255
/-- May a level be made of them? -/
def lvNew (n : Nat) (y : Nat → Int) : Bool := decide (n ≤ 4) && valsTo y n
/-- May the first k levels be made? -/
def newTo (v : Nat → Sl) (y : Nat → Nat → Int) : Nat → Bool
  | 0 => true
  | k + 1 => newTo v y k && lvNew (v k).n (y k)
/-- May an arena be made of them? -/
def newOk (v : Nat → Sl) (y : Nat → Nat → Int) : Bool := newTo v y 4
/-- The number of New's error. -/
def newE (v : Nat → Sl) (y : Nat → Nat → Int) : Int := bif newOk v y then 0 else 400
/-- Its words' cells. -/
def newZ (y : Nat → Nat → Int) (g j : Nat) : Int := if j % 3 = 0 then y g (j / 3) else 0
theorem valsTo_get {y : Nat → Int} : ∀ {n : Nat}, valsTo y n = true → ∀ i, i < n → upToV (y i) 255 = true
  | 0, _, i, hi => absurd hi (Nat.not_lt_zero _)
  | n + 1, h, i, hi => by
    simp only [valsTo, Bool.and_eq_true] at h
    by_cases e : i = n
    · subst e; exact h.2
    · exact valsTo_get h.1 i (by omega)
theorem lvNew_get {n : Nat} {y : Nat → Int} (h : lvNew n y = true) : n ≤ 4 ∧ valsTo y n = true := by
  simp only [lvNew, Bool.and_eq_true, decide_eq_true_eq] at h
  exact h
theorem lvNew_mk {n : Nat} {y : Nat → Int} (h : n ≤ 4) (h' : valsTo y n = true) : lvNew n y = true := by
  rw [lvNew, decide_eq_true h, h']; rfl
theorem lvNew_long {n : Nat} {y : Nat → Int} (h : 4 < n) : lvNew n y = false := by
  rw [lvNew, decide_eq_false (by omega)]; rfl
theorem lvNew_bad {n : Nat} {y : Nat → Int} (i : Nat) (hi : i < n) (h : upToV (y i) 255 = false) : lvNew n y = false := by
  cases e : lvNew n y with
  | false => rfl
  | true => rw [valsTo_get (lvNew_get e).2 i hi] at h; cases h
theorem newTo_get {v : Nat → Sl} {y : Nat → Nat → Int} : ∀ {n : Nat}, newTo v y n = true → ∀ i, i < n → lvNew (v i).n (y i) = true
  | 0, _, i, hi => absurd hi (Nat.not_lt_zero _)
  | n + 1, h, i, hi => by
    simp only [newTo, Bool.and_eq_true] at h
    by_cases e : i = n
    · subst e; exact h.2
    · exact newTo_get h.1 i (by omega)
theorem newOk_no {v : Nat → Sl} {y : Nat → Nat → Int} (i : Nat) (hi : i < 4) (h : lvNew (v i).n (y i) = false) : newOk v y = false := by
  cases e : newOk v y with
  | false => rfl
  | true => rw [newTo_get e i hi] at h; cases h
end Go.Proofs.YtnjognmnbpcaaaaGreat
namespace Go.Proofs.YtnjognmnbpcaaaaGreat
open Go.RowKit
theorem num_any (x : Int) (w : World) : Calls Tryz.prog 12 #[.int .i64 x] w fun e w' => e = .returned (.int .i64 x) ∧ w = w' := by
  go_enter Tryz.func12, Tryz.ntmps12
  go_wp2
  go_ret
  exact ⟨rfl, rfl⟩
theorem rupTo_any (n m : Int) (w : World) :
    Calls Tryz.prog 80 #[.int .i64 n, .int .i64 0, .int .i64 m] w fun e w' => e = .returned (.bool (upToV n m)) ∧ w = w' := by
  unfold upToV
  by_cases h0 : 0 ≤ n
  · by_cases h1 : n ≤ m
    · rw [decide_eq_true (show 0 ≤ n ∧ n ≤ m from ⟨h0, h1⟩)]
      go_enter Tryz.func80, Tryz.ntmps80
      go_wp2
      go_ret
      exact ⟨rfl, rfl⟩
    · rw [decide_eq_false (show ¬ (0 ≤ n ∧ n ≤ m) from fun x => h1 x.2)]
      go_enter Tryz.func80, Tryz.ntmps80
      go_wp2
      go_ret
      exact ⟨rfl, rfl⟩
  · rw [decide_eq_false (show ¬ (0 ≤ n ∧ n ≤ m) from fun x => h0 x.1)]
    go_enter Tryz.func80, Tryz.ntmps80
    go_wp2
    go_ret
    exact ⟨rfl, rfl⟩
theorem rvalue_any (n : Int) (w : World) :
    Calls Tryz.prog 52 #[.int .i64 n] w fun e w' => e = .returned (.bool (upToV n 255)) ∧ w = w' := by
  go_enter Tryz.func52, Tryz.ntmps52
  go_wp2_with (go_at_call 80; refine (rupTo_any _ _ _).mono ?_; rintro e w' ⟨rfl, rfl⟩)
  go_ret
  exact ⟨rfl, rfl⟩
theorem rclock_any (n : Int) (w : World) :
    Calls Tryz.prog 76 #[.int .i64 n] w fun e w' => e = .returned (.bool (upToV n 65535)) ∧ w = w' := by
  go_enter Tryz.func76, Tryz.ntmps76
  go_wp2_with (go_at_call 80; refine (rupTo_any _ _ _).mono ?_; rintro e w' ⟨rfl, rfl⟩)
  go_ret
  exact ⟨rfl, rfl⟩
theorem rid_any (n : Int) (w : World) :
    Calls Tryz.prog 108 #[.int .i64 n] w fun e w' => e = .returned (.bool (upToV n 254)) ∧ w = w' := by
  go_enter Tryz.func108, Tryz.ntmps108
  go_wp2_with (go_at_call 80; refine (rupTo_any _ _ _).mono ?_; rintro e w' ⟨rfl, rfl⟩)
  go_ret
  exact ⟨rfl, rfl⟩
theorem rlabel_any (n : Int) (w : World) :
    Calls Tryz.prog 79 #[.int .i64 n] w fun e w' => e = .returned (.bool (upToV n 3)) ∧ w = w' := by
  go_enter Tryz.func79, Tryz.ntmps79
  go_wp2_with (go_at_call 80; refine (rupTo_any _ _ _).mono ?_; rintro e w' ⟨rfl, rfl⟩)
  go_ret
  exact ⟨rfl, rfl⟩
theorem rreg_any (n : Int) (w : World) :
    Calls Tryz.prog 51 #[.int .i64 n] w fun e w' => e = .returned (.bool (upToV n 3)) ∧ w = w' := by
  go_enter Tryz.func51, Tryz.ntmps51
  go_wp2_with (go_at_call 80; refine (rupTo_any _ _ _).mono ?_; rintro e w' ⟨rfl, rfl⟩)
  go_ret
  exact ⟨rfl, rfl⟩
theorem rwordName_any (l i : Int) (w : World) :
    Calls Tryz.prog 134 #[.int .i64 l, .int .i64 i] w fun e w' => e = .returned (.bool (upToV l 3 && upToV i 3)) ∧ w = w' := by
  cases hl : upToV l 3
  · have C := fun w => rlabel_any l w
    rw [hl] at C
    have CC := hide C
    clear C
    go_enter Tryz.func134, Tryz.ntmps134
    go_wp2_with (go_at_call 79; refine (CC.out _).mono ?_; rintro e w' ⟨rfl, rfl⟩)
    go_ret
    exact ⟨rfl, rfl⟩
  · have C := fun w => rlabel_any l w
    rw [hl] at C
    have CC := hide C
    clear C
    go_enter Tryz.func134, Tryz.ntmps134
    go_wp2_with (first | (go_at_call 79; refine (CC.out _).mono ?_; rintro e w' ⟨rfl, rfl⟩) | (go_at_call 80; refine (rupTo_any _ _ _).mono ?_; rintro e w' ⟨rfl, rfl⟩))
    go_ret
    exact ⟨rfl, rfl⟩
end Go.Proofs.YtnjognmnbpcaaaaGreat
namespace Go.Proofs.YtnjognmnbpcaaaaGreat
open Go.RowKit
theorem upTo_any (n m : Int) (w : World) :
    Calls Tryz.prog 147 #[.int .i64 n, .int .i64 m] w fun e w' => e = .returned (.bool (upToV n m)) ∧ w = w' := by
  unfold upToV
  by_cases h0 : 0 ≤ n
  · by_cases h1 : n ≤ m
    · rw [decide_eq_true (show 0 ≤ n ∧ n ≤ m from ⟨h0, h1⟩)]
      go_enter Tryz.func147, Tryz.ntmps147
      go_wp2
      go_ret
      exact ⟨rfl, rfl⟩
    · rw [decide_eq_false (show ¬ (0 ≤ n ∧ n ≤ m) from fun x => h1 x.2)]
      go_enter Tryz.func147, Tryz.ntmps147
      go_wp2
      go_ret
      exact ⟨rfl, rfl⟩
  · rw [decide_eq_false (show ¬ (0 ≤ n ∧ n ≤ m) from fun x => h0 x.1)]
    go_enter Tryz.func147, Tryz.ntmps147
    go_wp2
    go_ret
    exact ⟨rfl, rfl⟩
theorem wmay_any (v n l : Int) (w : World) :
    Calls Tryz.prog 139 #[wordA v n l] w fun e w' => e = .returned (.bool (wmay v n l)) ∧ Below w.heap.size w w' := by
  unfold wordA
  cases hv : upToV v 255
  · rw [wmay_no1 hv]
    go_enter Tryz.func139, Tryz.ntmps139
    go_wp2_with (go_at_call 147; refine (upTo_any _ _ _).mono ?_; rintro e w' ⟨rfl, rfl⟩)
    go_ret
    exact ⟨rfl, (Below.refl _ _).alloc (Nat.le_refl _) _⟩
  cases hn : upToV n 65535
  · rw [wmay_no2 hn]
    go_enter Tryz.func139, Tryz.ntmps139
    go_wp2_with (go_at_call 147; refine (upTo_any _ _ _).mono ?_; rintro e w' ⟨rfl, rfl⟩)
    go_ret
    exact ⟨rfl, (Below.refl _ _).alloc (Nat.le_refl _) _⟩
  cases hl : upToV l 255
  · rw [wmay_no3 hl]
    go_enter Tryz.func139, Tryz.ntmps139
    go_wp2_with (go_at_call 147; refine (upTo_any _ _ _).mono ?_; rintro e w' ⟨rfl, rfl⟩)
    go_ret
    exact ⟨rfl, (Below.refl _ _).alloc (Nat.le_refl _) _⟩
  · rw [wmay_of hv hn hl]
    go_enter Tryz.func139, Tryz.ntmps139
    go_wp2_with (go_at_call 147; refine (upTo_any _ _ _).mono ?_; rintro e w' ⟨rfl, rfl⟩)
    go_ret
    exact ⟨rfl, (Below.refl _ _).alloc (Nat.le_refl _) _⟩
theorem lockW_form {v n l i : Int} (h : (wmay v n l && upToV i 254) = false) : lockW v n l i = wordA 0 0 0 ∧ lockE v n l i = 300 := by
  unfold lockW lockE; rw [h]; exact ⟨rfl, rfl⟩
theorem lockW_locked {v n l i : Int} (h : wmay v n l = true) (hi : upToV i 254 = true) (hl : l ≠ 0) : lockW v n l i = wordA 0 0 0 ∧ lockE v n l i = 301 := by
  unfold lockW lockE; rw [h, hi]; simp [hl]
theorem lockW_ok {v n l i : Int} (h : wmay v n l = true) (hi : upToV i 254 = true) (hl : l = 0) : lockW v n l i = wordA v n (i + 1) ∧ lockE v n l i = 0 := by
  unfold lockW lockE; rw [h, hi]; simp [hl]
theorem writeW_form {v n l x y : Int} (h : (wmay v n l && wmay x y 0) = false) : writeW v n l x y = wordA 0 0 0 ∧ writeE v n l x y = 300 := by
  unfold writeW writeE; rw [h]; exact ⟨rfl, rfl⟩
theorem writeW_ok {v n l x y : Int} (h : wmay v n l = true) (hi : wmay x y 0 = true) : writeW v n l x y = wordA x y 0 ∧ writeE v n l x y = 0 := by
  unfold writeW writeE; rw [h, hi]; exact ⟨rfl, rfl⟩
set_option linter.unusedSimpArgs false
end Go.Proofs.YtnjognmnbpcaaaaGreat
namespace Go.Proofs.YtnjognmnbpcaaaaGreat
open Go.RowKit
set_option linter.unusedSimpArgs false
theorem rwmay_any (v n l : Int) (w : World) :
    Calls Tryz.prog 104 #[wordA v n l] w fun e w' => e = .returned (.bool (wmay v n l)) ∧ Below w.heap.size w w' := by
  unfold wordA
  cases hv : upToV v 255
  · rw [wmay_no1 hv]
    go_enter Tryz.func104, Tryz.ntmps104
    go_wp2_with (first | (go_at_call 52; refine (rvalue_any _ _).mono ?_; rintro e w' ⟨rfl, rfl⟩) | (go_at_call 76; refine (rclock_any _ _).mono ?_; rintro e w' ⟨rfl, rfl⟩) | (go_at_call 80; refine (rupTo_any _ _ _).mono ?_; rintro e w' ⟨rfl, rfl⟩))
    go_ret
    exact ⟨rfl, (Below.refl _ _).alloc (Nat.le_refl _) _⟩
  cases hn : upToV n 65535
  · rw [wmay_no2 hn]
    go_enter Tryz.func104, Tryz.ntmps104
    go_wp2_with (first | (go_at_call 52; refine (rvalue_any _ _).mono ?_; rintro e w' ⟨rfl, rfl⟩) | (go_at_call 76; refine (rclock_any _ _).mono ?_; rintro e w' ⟨rfl, rfl⟩) | (go_at_call 80; refine (rupTo_any _ _ _).mono ?_; rintro e w' ⟨rfl, rfl⟩))
    go_ret
    exact ⟨rfl, (Below.refl _ _).alloc (Nat.le_refl _) _⟩
  cases hl : upToV l 255
  · rw [wmay_no3 hl]
    go_enter Tryz.func104, Tryz.ntmps104
    go_wp2_with (first | (go_at_call 52; refine (rvalue_any _ _).mono ?_; rintro e w' ⟨rfl, rfl⟩) | (go_at_call 76; refine (rclock_any _ _).mono ?_; rintro e w' ⟨rfl, rfl⟩) | (go_at_call 80; refine (rupTo_any _ _ _).mono ?_; rintro e w' ⟨rfl, rfl⟩))
    go_ret
    exact ⟨rfl, (Below.refl _ _).alloc (Nat.le_refl _) _⟩
  · rw [wmay_of hv hn hl]
    go_enter Tryz.func104, Tryz.ntmps104
    go_wp2_with (first | (go_at_call 52; refine (rvalue_any _ _).mono ?_; rintro e w' ⟨rfl, rfl⟩) | (go_at_call 76; refine (rclock_any _ _).mono ?_; rintro e w' ⟨rfl, rfl⟩) | (go_at_call 80; refine (rupTo_any _ _ _).mono ?_; rintro e w' ⟨rfl, rfl⟩))
    go_ret
    exact ⟨rfl, (Below.refl _ _).alloc (Nat.le_refl _) _⟩
set_option maxHeartbeats 600000 in
theorem rlock_any (v n l i : Int) (w : World) :
    Calls Tryz.prog 89 #[wordA v n l, .int .i64 i] w fun e w' => e = .returned (.tuple #[lockW v n l i, .int .i64 (lockE v n l i)]) ∧ Below w.heap.size w w' := by
  cases hm : wmay v n l
  · rw [(lockW_form (i := i) (by rw [hm]; rfl)).1, (lockW_form (i := i) (by rw [hm]; rfl)).2]
    unfold wordA
    go_enter Tryz.func89, Tryz.ntmps89
    go_wp2_with fail
    refine (rwmay_any v n l _).mono ?_
    rintro e w1 ⟨rfl, hb⟩
    rw [hm]
    obtain ⟨⟨c0, c1, c2⟩, f0, f1, f2⟩ := (((blk_new w _ _).alloc _).on hb).three
    obtain ⟨⟨d0, d1, d2⟩, g0, g1, g2⟩ := ((blk_new (w.alloc _) _ _).on hb).three
    rw [World.size_alloc] at d0 d1 d2 g0 g1 g2
    have b1 : Below w.heap.size w w1 := Below.on (by go_grown) hb
    go_wp2
    exact bodyPost_ret (v := .tuple #[.agg #[.int .i64 0, .int .i64 0, .int .i64 0], .int .i64 300]) (by simp [results, Tryz.results89, go_sem, d0, d1, d2]) rfl ⟨rfl, by go_grown⟩
  cases hi : upToV i 254
  · rw [(lockW_form (i := i) (by rw [hm, hi]; rfl)).1, (lockW_form (i := i) (by rw [hm, hi]; rfl)).2]
    unfold wordA
    go_enter Tryz.func89, Tryz.ntmps89
    go_wp2_with fail
    refine (rwmay_any v n l _).mono ?_
    rintro e w1 ⟨rfl, hb⟩
    rw [hm]
    obtain ⟨⟨c0, c1, c2⟩, f0, f1, f2⟩ := (((blk_new w _ _).alloc _).on hb).three
    obtain ⟨⟨d0, d1, d2⟩, g0, g1, g2⟩ := ((blk_new (w.alloc _) _ _).on hb).three
    rw [World.size_alloc] at d0 d1 d2 g0 g1 g2
    have b1 : Below w.heap.size w w1 := Below.on (by go_grown) hb
    go_wp2_with (go_at_call 108; refine (rid_any _ _).mono ?_; rintro e w' ⟨rfl, rfl⟩)
    exact bodyPost_ret (v := .tuple #[.agg #[.int .i64 0, .int .i64 0, .int .i64 0], .int .i64 300]) (by simp [results, Tryz.results89, go_sem, d0, d1, d2]) rfl ⟨rfl, by go_grown⟩
  by_cases hl : l = 0
  · rw [(lockW_ok hm hi hl).1, (lockW_ok hm hi hl).2]
    obtain ⟨i0, i1⟩ := upToV_yes hi
    subst hl
    unfold wordA
    go_enter Tryz.func89, Tryz.ntmps89
    go_wp2_with fail
    refine (rwmay_any v n 0 _).mono ?_
    rintro e w1 ⟨rfl, hb⟩
    rw [hm]
    obtain ⟨⟨c0, c1, c2⟩, f0, f1, f2⟩ := (((blk_new w _ _).alloc _).on hb).three
    obtain ⟨⟨d0, d1, d2⟩, g0, g1, g2⟩ := ((blk_new (w.alloc _) _ _).on hb).three
    rw [World.size_alloc] at d0 d1 d2 g0 g1 g2
    have b1 : Below w.heap.size w w1 := Below.on (by go_grown) hb
    go_wp2_with (go_at_call 108; refine (rid_any _ _).mono ?_; rintro e w' ⟨rfl, rfl⟩)
    exact bodyPost_ret (v := .tuple #[.agg #[.int .i64 v, .int .i64 n, .int .i64 (i + 1)], .int .i64 0]) (by simp [results, Tryz.results89, go_sem, d0, d1, d2]) rfl ⟨rfl, by go_grown⟩
  · rw [(lockW_locked hm hi hl).1, (lockW_locked hm hi hl).2]
    have hl' : (l == 0) = false := beq_eq_false_iff_ne.2 hl
    unfold wordA
    go_enter Tryz.func89, Tryz.ntmps89
    go_wp2_with fail
    refine (rwmay_any v n l _).mono ?_
    rintro e w1 ⟨rfl, hb⟩
    rw [hm]
    obtain ⟨⟨c0, c1, c2⟩, f0, f1, f2⟩ := (((blk_new w _ _).alloc _).on hb).three
    obtain ⟨⟨d0, d1, d2⟩, g0, g1, g2⟩ := ((blk_new (w.alloc _) _ _).on hb).three
    rw [World.size_alloc] at d0 d1 d2 g0 g1 g2
    have b1 : Below w.heap.size w w1 := Below.on (by go_grown) hb
    go_wp2_with (go_at_call 108; refine (rid_any _ _).mono ?_; rintro e w' ⟨rfl, rfl⟩)
    exact bodyPost_ret (v := .tuple #[.agg #[.int .i64 0, .int .i64 0, .int .i64 0], .int .i64 301]) (by simp [results, Tryz.results89, go_sem, d0, d1, d2]) rfl ⟨rfl, by go_grown⟩
set_option maxHeartbeats 600000 in
theorem rwrite_any (v n l x y : Int) (w : World) :
    Calls Tryz.prog 93 #[wordA v n l, .int .i64 x, .int .i64 y] w fun e w' => e = .returned (.tuple #[writeW v n l x y, .int .i64 (writeE v n l x y)]) ∧ Below w.heap.size w w' := by
  cases hm : wmay v n l
  · rw [(writeW_form (x := x) (y := y) (by rw [hm]; rfl)).1, (writeW_form (x := x) (y := y) (by rw [hm]; rfl)).2]
    unfold wordA
    go_enter Tryz.func93, Tryz.ntmps93
    go_wp2_with fail
    refine (rwmay_any v n l _).mono ?_
    rintro e w1 ⟨rfl, hb⟩
    rw [hm]
    have B1 := ((blk_new (w.alloc _) _ _).alloc _).on hb
    have B2 := (blk_new ((w.alloc _).alloc _) _ _).on hb
    rw [World.size_alloc] at B1
    rw [World.size_alloc, World.size_alloc] at B2
    obtain ⟨⟨d0, d1, d2⟩, g0, g1, g2⟩ := B1.three
    obtain ⟨⟨c0, c1, c2⟩, f0, f1, f2⟩ := B2.three
    have b1 : Below w.heap.size w w1 := Below.on (by go_grown) hb
    go_wp2
    exact bodyPost_ret (v := .tuple #[.agg #[.int .i64 0, .int .i64 0, .int .i64 0], .int .i64 300]) (by simp [results, Tryz.results93, go_sem, d0, d1, d2]) rfl ⟨rfl, by go_grown⟩
  cases hi : wmay x y 0
  · rw [(writeW_form (by rw [hm, hi]; rfl)).1, (writeW_form (by rw [hm, hi]; rfl)).2]
    unfold wordA
    go_enter Tryz.func93, Tryz.ntmps93
    go_wp2_with fail
    refine (rwmay_any v n l _).mono ?_
    rintro e w1 ⟨rfl, hb⟩
    rw [hm]
    have B1 := ((blk_new (w.alloc _) _ _).alloc _).on hb
    have B2 := (blk_new ((w.alloc _).alloc _) _ _).on hb
    rw [World.size_alloc] at B1
    rw [World.size_alloc, World.size_alloc] at B2
    obtain ⟨⟨d0, d1, d2⟩, g0, g1, g2⟩ := B1.three
    obtain ⟨⟨c0, c1, c2⟩, f0, f1, f2⟩ := B2.three
    have b1 : Below w.heap.size w w1 := Below.on (by go_grown) hb
    go_wp2_with fail
    refine (rwmay_any x y 0 _).mono ?_
    rintro e w2 ⟨rfl, hb2⟩
    rw [hi]
    clear d0 d1 d2 g0 g1 g2 c0 c1 c2 f0 f1 f2
    obtain ⟨⟨d0, d1, d2⟩, g0, g1, g2⟩ := (B1.on hb2).three
    obtain ⟨⟨c0, c1, c2⟩, f0, f1, f2⟩ := (B2.on hb2).three
    have b2 : Below w.heap.size w w2 := Below.on b1 hb2
    go_wp2
    exact bodyPost_ret (v := .tuple #[.agg #[.int .i64 0, .int .i64 0, .int .i64 0], .int .i64 300]) (by simp [results, Tryz.results93, go_sem, d0, d1, d2]) rfl ⟨rfl, by go_grown⟩
  · rw [(writeW_ok hm hi).1, (writeW_ok hm hi).2]
    unfold wordA
    go_enter Tryz.func93, Tryz.ntmps93
    go_wp2_with fail
    refine (rwmay_any v n l _).mono ?_
    rintro e w1 ⟨rfl, hb⟩
    rw [hm]
    have B1 := ((blk_new (w.alloc _) _ _).alloc _).on hb
    have B2 := (blk_new ((w.alloc _).alloc _) _ _).on hb
    rw [World.size_alloc] at B1
    rw [World.size_alloc, World.size_alloc] at B2
    obtain ⟨⟨d0, d1, d2⟩, g0, g1, g2⟩ := B1.three
    obtain ⟨⟨c0, c1, c2⟩, f0, f1, f2⟩ := B2.three
    have b1 : Below w.heap.size w w1 := Below.on (by go_grown) hb
    go_wp2_with fail
    refine (rwmay_any x y 0 _).mono ?_
    rintro e w2 ⟨rfl, hb2⟩
    rw [hi]
    clear d0 d1 d2 g0 g1 g2 c0 c1 c2 f0 f1 f2
    obtain ⟨⟨d0, d1, d2⟩, g0, g1, g2⟩ := (B1.on hb2).three
    obtain ⟨⟨c0, c1, c2⟩, f0, f1, f2⟩ := (B2.on hb2).three
    have b2 : Below w.heap.size w w2 := Below.on b1 hb2
    go_wp2
    exact bodyPost_ret (v := .tuple #[.agg #[.int .i64 x, .int .i64 y, .int .i64 0], .int .i64 0]) (by simp [results, Tryz.results93, go_sem, d0, d1, d2]) rfl ⟨rfl, by go_grown⟩
end Go.Proofs.YtnjognmnbpcaaaaGreat
namespace Go.Proofs.YtnjognmnbpcaaaaGreat
open Go.RowKit
set_option maxHeartbeats 1000000 in
theorem rarenaMay_any (s : Nat → Sl) (z : Nat → Nat → Int) (w : World) (hn : Short s) (h : Arn w s z) :
    Calls Tryz.prog 75 #[arenaA s] w fun e w' => e = .returned (.bool (amay s z)) ∧ Below w.heap.size w w' := by
  unfold arenaA amay
  go_enter Tryz.func75, Tryz.ntmps75
  go_wp2
  go_loopw [3] (fun i wr => ∃ k : Nat, k ≤ 4 ∧ i = .int .i64 k ∧ lvTo s z k = true ∧ Blk wr w.heap.size (arenaL s) ∧ Below w.heap.size w wr) (fun i _ => 4 - (intOf i).toNat)
  case atStart => exact ⟨0, Nat.zero_le _, rfl, rfl, blk_new w (arenaL s) 23, by go_grown⟩
  case round =>
    obtain ⟨k, hk, rfl, hs, B1, hb⟩ := hrel
    by_cases hlt : k < 4
    · have i1 : (k : Int) < 4 := by omega
      have HK := hide (hn k hlt)
      have HS := hide hs
      have HR := hide h
      clear hs h hn
      go_wp2
      go_loopw [4] (fun j wr => ∃ m : Nat, m ≤ (s k).n ∧ m ≤ 4 ∧ j = .int .i64 m ∧ wordsTo (z k) m = true ∧ Blk wr w.heap.size (arenaL s) ∧ Below w.heap.size w wr) (fun j _ => 5 - (intOf j).toNat)
      case atStart => exact ⟨0, Nat.zero_le _, Nat.zero_le _, rfl, rfl, B1, hb⟩
      case round =>
        clear B1 hb
        rename_i wr1
        obtain ⟨m, hm, hm4, rfl, hw, B1, hb⟩ := hrel
        have c1 := B1.cell k _ (arenaL_get s hlt)
        have HW := hide hw
        clear hw
        by_cases hmn : m < (s k).n
        · have i2 : (m : Int) < ((s k).n : Int) := by omega
          by_cases h4 : m < 4
          · have i3 : ¬ (4 : Int) ≤ (m : Int) := by omega
            obtain ⟨b, off, hsa, _, d0, d1, d2⟩ := ((HR.out.below hb (Nat.le_refl _)) k hlt).at3 m hmn
            rw [hsa] at c1
            have HA := hide hsa
            clear hsa
            cases hv : wmay (z k (m * 3)) (z k (m * 3 + 1)) (z k (m * 3 + 2))
            · go_wp2_with fail
              refine (rwmay_any _ _ _ _).mono ?_
              rintro e w1 ⟨rfl, hb1⟩
              rw [hv]
              have b1 : Below w.heap.size w w1 := Below.on hb hb1
              clear hb1 c1 d0 d1 d2
              go_wp2
              go_ret
              exact ⟨ret_bool (lvTo_no k hlt (lvMay_bad m hmn hv)).symm, b1⟩
            · go_wp2_with fail
              refine (rwmay_any _ _ _ _).mono ?_
              rintro e w1 ⟨rfl, hb1⟩
              rw [hv]
              have b1 : Below w.heap.size w w1 := Below.on hb hb1
              have B3 := B1.on hb1
              have HN : Hid (wordsTo (z k) (m + 1) = true) := by
                show wordsTo (z k) (m + 1) = true
                rw [wordsTo, HW.out, hv]
                rfl
              clear hb1 c1 d0 d1 d2 B1 hb
              go_wp2
              go_roundw
              case rel => exact ⟨m + 1, by omega, by omega, by go_num, HN.out, B3, b1⟩
              case measure => simp [intOf]; omega
          · have i3 : (4 : Int) ≤ (m : Int) := by omega
            go_wp2
            go_ret
            exact ⟨ret_bool (lvTo_no k hlt (lvMay_long (by omega))).symm, hb⟩
        · obtain rfl : m = (s k).n := by omega
          have HN : Hid (lvTo s z (k + 1) = true) := by
            show lvTo s z (k + 1) = true
            rw [lvTo, HS.out, lvMay_mk (by omega) HW.out]
            rfl
          go_wp2
          go_roundw
          case rel => exact ⟨k + 1, by omega, by go_num, HN.out, B1, hb⟩
          case measure => simp [intOf]; omega
    · obtain rfl : k = 4 := by omega
      have HS := hide hs
      clear hs h hn
      go_wp2
      go_ret
      exact ⟨ret_bool HS.out.symm, hb⟩
theorem rthere_any (s : Nat → Sl) (l i : Int) (w : World) :
    Calls Tryz.prog 133 #[arenaA s, .int .i64 l, .int .i64 i] w fun e w' => e = .returned (.bool (thereV s l i)) ∧ Below w.heap.size w w' := by
  by_cases hl : 0 ≤ l ∧ l < 4
  · have hm : mayV l = true := decide_eq_true hl
    obtain ⟨g, rfl⟩ : ∃ g : Nat, l = g := ⟨l.toNat, by omega⟩
    have hg : g < 4 := by omega
    have g0 : (0 : Int) ≤ (g : Int) := by omega
    have g1 : (g : Int) < 4 := by omega
    by_cases h0 : 0 ≤ i
    · have c1 := (blk_new w (arenaL s) 23).cell g _ (arenaL_get s hg)
      unfold arenaL at c1
      by_cases h1 : i < ((s g).n : Int)
      · have HT : thereV s (g : Int) i = true := decide_eq_true ⟨hl, h0, by simpa using h1⟩
        rw [HT]
        clear HT hl
        unfold arenaA
        go_enter Tryz.func133, Tryz.ntmps133
        go_wp2_with (go_at_call 79; refine (rmay_any _ _).mono ?_; rintro e w' ⟨rfl, rfl⟩)
        go_ret
        exact ⟨rfl, (Below.refl _ _).alloc (Nat.le_refl _) _⟩
      · have HT : thereV s (g : Int) i = false := decide_eq_false (fun x => h1 (by simpa using x.2.2))
        rw [HT]
        clear HT hl
        unfold arenaA
        go_enter Tryz.func133, Tryz.ntmps133
        go_wp2_with (go_at_call 79; refine (rmay_any _ _).mono ?_; rintro e w' ⟨rfl, rfl⟩)
        go_ret
        exact ⟨ret_bool (decide_eq_false (by omega)), (Below.refl _ _).alloc (Nat.le_refl _) _⟩
    · have HT : thereV s (g : Int) i = false := decide_eq_false (fun x => h0 x.2.1)
      rw [HT]
      clear HT hl
      unfold arenaA
      go_enter Tryz.func133, Tryz.ntmps133
      go_wp2_with (go_at_call 79; refine (rmay_any _ _).mono ?_; rintro e w' ⟨rfl, rfl⟩)
      go_ret
      exact ⟨rfl, (Below.refl _ _).alloc (Nat.le_refl _) _⟩
  · have hm : mayV l = false := decide_eq_false hl
    have HT : thereV s l i = false := decide_eq_false (fun x => hl x.1)
    rw [HT]
    clear HT hl
    unfold arenaA
    go_enter Tryz.func133, Tryz.ntmps133
    go_wp2_with (go_at_call 79; refine (rmay_any _ _).mono ?_; rintro e w' ⟨rfl, rfl⟩)
    go_ret
    exact ⟨rfl, (Below.refl _ _).alloc (Nat.le_refl _) _⟩
end Go.Proofs.YtnjognmnbpcaaaaGreat
