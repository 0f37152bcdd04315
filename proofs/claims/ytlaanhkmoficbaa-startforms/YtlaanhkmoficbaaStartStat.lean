/-
  What package start's functions hand back: statements, to be proved of the landed code.
-/
import Derived.Test.YtlaanhkmoficbaaSessMem
import Derived.Test.YtlaanhkmoficbaaSl
import Derived.Laws.ResultCell
import Derived.Deep.MidRow
namespace Go.Proofs.Ytlaanhkmoficbaa
open Go.RowKit
set_option linter.unusedSimpArgs false

theorem Try.sizeSess : (Try.prog.info? 30).map (·.size) = some 17 := by kernel_rfl
theorem Try.rowSess : (Try.prog.underlying 30).any (·.isRow) = true := by kernel_rfl
/-- A session read whole out of its block. -/
theorem load_sess {W : World} {b : Nat} {i : Nat → Int} {p r t : Value} (h : Blk W b (sessL i p r t)) : (loadVar 30 ⟨b, 0, none⟩).run Try.prog W = .ok (sessA i p r t) W := by
  cases hd : Try.prog.underlying 30 with
  | none => have := Try.rowSess; rw [hd] at this; cases this
  | some d =>
    have hr : d.isRow = true := by have := Try.rowSess; rw [hd] at this; exact this
    exact run_loadVar_mid W b 0 30 (sessL i p r t) d (fun j v hv => by rw [Nat.zero_add]; exact h.cell j v hv) hd hr Try.sizeSess
/-- What a function hands back whose results are a session and a number. -/
theorem ret_sess {fn : Func} (hf : fn.results = #[.cell 2 30, .tmp 3]) {tmps : Array Value} {W : World} {b : Nat} {i : Nat → Int} {p r t : Value} {E : Int} (h : Blk W b (sessL i p r t)) (h2 : tmps.getD 2 undef = .pointer (some ⟨b, 0, none⟩)) (h3 : tmps.getD 3 undef = .int .i64 E) :
    (results fn tmps).run Try.prog W = .ok (.tuple #[sessA i p r t, .int .i64 E]) W := by
  rw [results_cell_tmp hf, h2, h3]
  show ((loadVar 30 ⟨b, 0, none⟩).run Try.prog W).andThen _ = _
  rw [load_sess h]
  rfl
/-- A session read whole, as a walk meets it. -/
theorem wpList_load_sess {ops : Array Oper} {rest : List Oper} {op : Oper} {a : Act} {w : World} {Q : Exit → Act → World → Prop} (hgd : Region.wanted op (yielded ops a.tmps) = true) (x : Operand) (ho : op.op = .load 30 x) (b : Nat) (hx : a.eval x = .pointer (some ⟨b, 0, none⟩)) {i : Nat → Int} {p r t : Value} (h : Blk w b (sessL i p r t))
    (hw : wpList Try.prog ops Q rest (a.put op.dst (sessA i p r t)) w) : wpList Try.prog ops Q (op :: rest) a w := by
  cases hd : Try.prog.underlying 30 with
  | none => have := Try.rowSess; rw [hd] at this; cases this
  | some d =>
    have hr : d.isRow = true := by have := Try.rowSess; rw [hd] at this; exact this
    exact BigFrame.wpList_want hgd fun _ hK => wp_load_mid 30 x ho b 0 hx (sessL i p r t) d (fun j v hv => by rw [Nat.zero_add]; exact h.cell j v hv) hd hr Try.sizeSess (hK _ _ hw)
/-- What New hands back: none, or a session whose program lies in new memory. -/
def NewSPost (id l cl : Int) (n : Nat) (z : Nat → Int) (w : World) (e : Ending) (w' : World) : Prop :=
  ∃ x : Sl, e = .returned (.tuple #[sessA (newI (startMay id l cl n z) id l cl) (.slice x.a x.n x.c) (.slice none 0 0) (.slice none 0 0), .int .i64 (newE (startMay id l cl n z))]) ∧ x.n = newN (startMay id l cl n z) n ∧ (x.a = none → x.n = 0 ∧ x.c = 0) ∧ (Row w' x.a (x.n * 4) fun k => .int .i64 (z k)) ∧
    (0 < x.n → ∃ b, x.a = some ⟨b, 0, none⟩ ∧ w.heap.size ≤ b ∧ b < w'.heap.size ∧ Own w' b (x.n * 4) (intF z)) ∧ Below w.heap.size w w'
def MaySC : Prop := ∀ (id l cl : Int) (a : Option Addr) (n c : Nat) (z : Nat → Int) (w : World), n ≤ 1152921504606846976 → (Row w a (n * 4) fun k => .int .i64 (z k)) → Calls Try.prog 12 #[startA id l cl (.slice a n c)] w fun e w' => e = .returned (.bool (startMay id l cl n z)) ∧ Below w.heap.size w w'
def NewSC : Prop := ∀ (id l cl : Int) (a : Option Addr) (n c : Nat) (z : Nat → Int) (w : World), n * 32 ≤ 140737488351232 → (a = none → n = 0 ∧ c = 0) → (Row w a (n * 4) fun k => .int .i64 (z k)) → Calls Try.prog 8 #[startA id l cl (.slice a n c)] w (NewSPost id l cl n z w)

theorem newS_no {id l cl : Int} {n : Nat} {z : Nat → Int} {w w' : World} (h : startMay id l cl n z = false) (hb : Below w.heap.size w w') :
    NewSPost id l cl n z w (.returned (.tuple #[sessA (fun _ => 0) (.slice none 0 0) (.slice none 0 0) (.slice none 0 0), .int .i64 1100])) w' := by
  refine ⟨⟨none, 0, 0⟩, ?_, ?_, fun _ => ⟨rfl, rfl⟩, row_zero _ _ _, fun h' => absurd h' (Nat.lt_irrefl 0), hb⟩
  · rw [h]; rfl
  · rw [h]; rfl
theorem newS_yes {id l cl : Int} {n : Nat} {z : Nat → Int} {w w' : World} (h : startMay id l cl n z = true) (a : Option Addr) (c : Nat) (i : Nat → Int) (hi : ∀ k, i k = newI true id l cl k) (ha : a = none → n = 0 ∧ c = 0) (hr : Row w' a (n * 4) fun k => .int .i64 (z k)) (ho : 0 < n → ∃ b, a = some ⟨b, 0, none⟩ ∧ w.heap.size ≤ b ∧ b < w'.heap.size ∧ Own w' b (n * 4) (intF z)) (hb : Below w.heap.size w w') :
    NewSPost id l cl n z w (.returned (.tuple #[sessA i (.slice a n c) (.slice none 0 0) (.slice none 0 0), .int .i64 0])) w' := by
  refine ⟨⟨a, n, c⟩, ?_, ?_, ha, hr, ho, hb⟩
  · rw [h, show i = newI true id l cl from funext hi]; rfl
  · rw [h]; rfl

end Go.Proofs.Ytlaanhkmoficbaa
