/-
  No cell of these rows narrows 'for every input' (looked for: loops, veiled, ifaces, maps, wideKeys, modest, calm, conditions, laid).
  DERIVED. THE GIVEN ROWS OF THIS SEAT. 17 by the template 'for every input the law returns true; each argument reads behind the call as it read before'; 0 by the template 'total and deterministic' (their statements: YtjjokalheloimaaGreatTotals.lean).
  GIVEN WITH THE SEED: the statements are not yours to turn. If you find one false, say at which input.
  Laid BY PROGRAM, IN A SANDBOX (cutbox-rows.mjs): the forced cells as the released guide's own fill.sh prints them over the translation 150aa58a6ec9afea… (all of the seat's roots in one cut). By AI agents, Wed Nov 11 2026. No macro, syntax, notation, axiom, sorry.
-/
import Derived.Test.YtjjokalheloimaaGreatChecked
import GoSem.Claim
import GoSem.ClaimJoined
import GoSem.ClaimMapViews
import Derived.JoinedTies
import Derived.KernelRfl
namespace Go.Proofs.YtjjokalheloimaaGreat
/- THE CELL 'sum', in the pinned program and in every row, IS THE sha256 OF THE DUMP (.gsa) THAT YtjjokalheloimaaGreatProg.lean LOADS. Nothing in Lean hashes anything: it is a label: what it is worth is what the hold of that sum in a sandbox is worth. -/
noncomputable def Tryz.pinned : Pinned := { name := "ytjjokalheloimaagreat", sum := "150aa58a6ec9afea3fa5980d8bb6dd01a327dce59acd093fe61292bea1ed8820", checked := Tryz.checked }
namespace Rows
def none {H : Type} : Left H := { results := [], args := [] }

/-- 'veillaw12.Machs': WHATEVER THE INPUT: true; the input reads as it did. -/
def machsSpec : ChangeSpec := { name := "machs", fn := fun _ => fun
  | [d1, d2, d3, d4, d5] => { results := [.lit (.bool true)], args := [d1, d2, d3, d4, d5] }
  | _ => none }
def machsRow : OpenClaim := { program := "ytjjokalheloimaagreat", sum := "150aa58a6ec9afea3fa5980d8bb6dd01a327dce59acd093fe61292bea1ed8820", func := "veil/veillaw12.Machs", spec := "machs", unfollowed := true, recurses := true, apart := false }
def MachsSaid : Prop := machsRow.holds Tryz.pinned (OpenSpec.ofChange machsSpec)

/-- ITS FALSE NEIGHBOUR: 'it returns false'. Refute it at one input. -/
def machsWrong : ChangeSpec := { name := "machs", fn := fun _ => fun
  | [d1, d2, d3, d4, d5] => { results := [.lit (.bool false)], args := [d1, d2, d3, d4, d5] }
  | _ => none }
def MachsWrongFalsely : Prop := machsRow.holds Tryz.pinned (OpenSpec.ofChange machsWrong)

/-- 'veillaw12.MachForms': WHATEVER THE INPUT: true; the input reads as it did. -/
def machFormsSpec : ChangeSpec := { name := "machForms", fn := fun _ => fun
  | [d1, d2] => { results := [.lit (.bool true)], args := [d1, d2] }
  | _ => none }
def machFormsRow : OpenClaim := { program := "ytjjokalheloimaagreat", sum := "150aa58a6ec9afea3fa5980d8bb6dd01a327dce59acd093fe61292bea1ed8820", func := "veil/veillaw12.MachForms", spec := "machForms", unfollowed := true, recurses := true, apart := false }
def MachFormsSaid : Prop := machFormsRow.holds Tryz.pinned (OpenSpec.ofChange machFormsSpec)

/-- ITS FALSE NEIGHBOUR: 'it returns false'. Refute it at one input. -/
def machFormsWrong : ChangeSpec := { name := "machForms", fn := fun _ => fun
  | [d1, d2] => { results := [.lit (.bool false)], args := [d1, d2] }
  | _ => none }
def MachFormsWrongFalsely : Prop := machFormsRow.holds Tryz.pinned (OpenSpec.ofChange machFormsWrong)

/-- 'veillaw12.MachNews': WHATEVER THE INPUT: true; the input reads as it did. -/
def machNewsSpec : ChangeSpec := { name := "machNews", fn := fun _ => fun
  | [d1, d2] => { results := [.lit (.bool true)], args := [d1, d2] }
  | _ => none }
def machNewsRow : OpenClaim := { program := "ytjjokalheloimaagreat", sum := "150aa58a6ec9afea3fa5980d8bb6dd01a327dce59acd093fe61292bea1ed8820", func := "veil/veillaw12.MachNews", spec := "machNews", unfollowed := true, recurses := true, apart := false }
def MachNewsSaid : Prop := machNewsRow.holds Tryz.pinned (OpenSpec.ofChange machNewsSpec)

/-- ITS FALSE NEIGHBOUR: 'it returns false'. Refute it at one input. -/
def machNewsWrong : ChangeSpec := { name := "machNews", fn := fun _ => fun
  | [d1, d2] => { results := [.lit (.bool false)], args := [d1, d2] }
  | _ => none }
def MachNewsWrongFalsely : Prop := machNewsRow.holds Tryz.pinned (OpenSpec.ofChange machNewsWrong)

/-- 'veillaw12.MachTells': WHATEVER THE INPUT: true; the input reads as it did. -/
def machTellsSpec : ChangeSpec := { name := "machTells", fn := fun _ => fun
  | [d1, d2, d3, d4, d5] => { results := [.lit (.bool true)], args := [d1, d2, d3, d4, d5] }
  | _ => none }
def machTellsRow : OpenClaim := { program := "ytjjokalheloimaagreat", sum := "150aa58a6ec9afea3fa5980d8bb6dd01a327dce59acd093fe61292bea1ed8820", func := "veil/veillaw12.MachTells", spec := "machTells", unfollowed := true, recurses := true, apart := false }
def MachTellsSaid : Prop := machTellsRow.holds Tryz.pinned (OpenSpec.ofChange machTellsSpec)

/-- ITS FALSE NEIGHBOUR: 'it returns false'. Refute it at one input. -/
def machTellsWrong : ChangeSpec := { name := "machTells", fn := fun _ => fun
  | [d1, d2, d3, d4, d5] => { results := [.lit (.bool false)], args := [d1, d2, d3, d4, d5] }
  | _ => none }
def MachTellsWrongFalsely : Prop := machTellsRow.holds Tryz.pinned (OpenSpec.ofChange machTellsWrong)

/-- 'veillaw12.MachSessions': WHATEVER THE INPUT: true; the input reads as it did. -/
def machSessionsSpec : ChangeSpec := { name := "machSessions", fn := fun _ => fun
  | [d1, d2] => { results := [.lit (.bool true)], args := [d1, d2] }
  | _ => none }
def machSessionsRow : OpenClaim := { program := "ytjjokalheloimaagreat", sum := "150aa58a6ec9afea3fa5980d8bb6dd01a327dce59acd093fe61292bea1ed8820", func := "veil/veillaw12.MachSessions", spec := "machSessions", unfollowed := true, recurses := true, apart := false }
def MachSessionsSaid : Prop := machSessionsRow.holds Tryz.pinned (OpenSpec.ofChange machSessionsSpec)

/-- ITS FALSE NEIGHBOUR: 'it returns false'. Refute it at one input. -/
def machSessionsWrong : ChangeSpec := { name := "machSessions", fn := fun _ => fun
  | [d1, d2] => { results := [.lit (.bool false)], args := [d1, d2] }
  | _ => none }
def MachSessionsWrongFalsely : Prop := machSessionsRow.holds Tryz.pinned (OpenSpec.ofChange machSessionsWrong)

/-- 'veillaw12.MachNew': WHATEVER THE INPUT: true; the input reads as it did. -/
def machNewSpec : ChangeSpec := { name := "machNew", fn := fun _ => fun
  | [d] => { results := [.lit (.bool true)], args := [d] }
  | _ => none }
def machNewRow : OpenClaim := { program := "ytjjokalheloimaagreat", sum := "150aa58a6ec9afea3fa5980d8bb6dd01a327dce59acd093fe61292bea1ed8820", func := "veil/veillaw12.MachNew", spec := "machNew", unfollowed := true, recurses := true, apart := false }
def MachNewSaid : Prop := machNewRow.holds Tryz.pinned (OpenSpec.ofChange machNewSpec)

/-- ITS FALSE NEIGHBOUR: 'it returns false'. Refute it at one input. -/
def machNewWrong : ChangeSpec := { name := "machNew", fn := fun _ => fun
  | [d] => { results := [.lit (.bool false)], args := [d] }
  | _ => none }
def MachNewWrongFalsely : Prop := machNewRow.holds Tryz.pinned (OpenSpec.ofChange machNewWrong)

/-- 'veillaw13.Undos': WHATEVER THE INPUT: true; the input reads as it did. -/
def undosSpec : ChangeSpec := { name := "undos", fn := fun _ => fun
  | [d1, d2, d3, d4, d5] => { results := [.lit (.bool true)], args := [d1, d2, d3, d4, d5] }
  | _ => none }
def undosRow : OpenClaim := { program := "ytjjokalheloimaagreat", sum := "150aa58a6ec9afea3fa5980d8bb6dd01a327dce59acd093fe61292bea1ed8820", func := "veil/veillaw13.Undos", spec := "undos", unfollowed := true, recurses := true, apart := false }
def UndosSaid : Prop := undosRow.holds Tryz.pinned (OpenSpec.ofChange undosSpec)

/-- ITS FALSE NEIGHBOUR: 'it returns false'. Refute it at one input. -/
def undosWrong : ChangeSpec := { name := "undos", fn := fun _ => fun
  | [d1, d2, d3, d4, d5] => { results := [.lit (.bool false)], args := [d1, d2, d3, d4, d5] }
  | _ => none }
def UndosWrongFalsely : Prop := undosRow.holds Tryz.pinned (OpenSpec.ofChange undosWrong)

/-- 'veillaw13.UndoTurns': WHATEVER THE INPUT: true; the input reads as it did. -/
def undoTurnsSpec : ChangeSpec := { name := "undoTurns", fn := fun _ => fun
  | [d1, d2, d3] => { results := [.lit (.bool true)], args := [d1, d2, d3] }
  | _ => none }
def undoTurnsRow : OpenClaim := { program := "ytjjokalheloimaagreat", sum := "150aa58a6ec9afea3fa5980d8bb6dd01a327dce59acd093fe61292bea1ed8820", func := "veil/veillaw13.UndoTurns", spec := "undoTurns", unfollowed := true, recurses := true, apart := false }
def UndoTurnsSaid : Prop := undoTurnsRow.holds Tryz.pinned (OpenSpec.ofChange undoTurnsSpec)

/-- ITS FALSE NEIGHBOUR: 'it returns false'. Refute it at one input. -/
def undoTurnsWrong : ChangeSpec := { name := "undoTurns", fn := fun _ => fun
  | [d1, d2, d3] => { results := [.lit (.bool false)], args := [d1, d2, d3] }
  | _ => none }
def UndoTurnsWrongFalsely : Prop := undoTurnsRow.holds Tryz.pinned (OpenSpec.ofChange undoTurnsWrong)

/-- 'veillaw13.UndoForms': WHATEVER THE INPUT: true; the input reads as it did. -/
def undoFormsSpec : ChangeSpec := { name := "undoForms", fn := fun _ => fun
  | [d1, d2] => { results := [.lit (.bool true)], args := [d1, d2] }
  | _ => none }
def undoFormsRow : OpenClaim := { program := "ytjjokalheloimaagreat", sum := "150aa58a6ec9afea3fa5980d8bb6dd01a327dce59acd093fe61292bea1ed8820", func := "veil/veillaw13.UndoForms", spec := "undoForms", unfollowed := true, recurses := true, apart := false }
def UndoFormsSaid : Prop := undoFormsRow.holds Tryz.pinned (OpenSpec.ofChange undoFormsSpec)

/-- ITS FALSE NEIGHBOUR: 'it returns false'. Refute it at one input. -/
def undoFormsWrong : ChangeSpec := { name := "undoForms", fn := fun _ => fun
  | [d1, d2] => { results := [.lit (.bool false)], args := [d1, d2] }
  | _ => none }
def UndoFormsWrongFalsely : Prop := undoFormsRow.holds Tryz.pinned (OpenSpec.ofChange undoFormsWrong)

/-- 'veillaw13.UndoAgain': WHATEVER THE INPUT: true; the input reads as it did. -/
def undoAgainSpec : ChangeSpec := { name := "undoAgain", fn := fun _ => fun
  | [d1, d2] => { results := [.lit (.bool true)], args := [d1, d2] }
  | _ => none }
def undoAgainRow : OpenClaim := { program := "ytjjokalheloimaagreat", sum := "150aa58a6ec9afea3fa5980d8bb6dd01a327dce59acd093fe61292bea1ed8820", func := "veil/veillaw13.UndoAgain", spec := "undoAgain", unfollowed := true, recurses := true, apart := false }
def UndoAgainSaid : Prop := undoAgainRow.holds Tryz.pinned (OpenSpec.ofChange undoAgainSpec)

/-- ITS FALSE NEIGHBOUR: 'it returns false'. Refute it at one input. -/
def undoAgainWrong : ChangeSpec := { name := "undoAgain", fn := fun _ => fun
  | [d1, d2] => { results := [.lit (.bool false)], args := [d1, d2] }
  | _ => none }
def UndoAgainWrongFalsely : Prop := undoAgainRow.holds Tryz.pinned (OpenSpec.ofChange undoAgainWrong)

/-- 'veillaw13.UndoEnds': WHATEVER THE INPUT: true; the input reads as it did. -/
def undoEndsSpec : ChangeSpec := { name := "undoEnds", fn := fun _ => fun
  | [d1, d2, d3, d4] => { results := [.lit (.bool true)], args := [d1, d2, d3, d4] }
  | _ => none }
def undoEndsRow : OpenClaim := { program := "ytjjokalheloimaagreat", sum := "150aa58a6ec9afea3fa5980d8bb6dd01a327dce59acd093fe61292bea1ed8820", func := "veil/veillaw13.UndoEnds", spec := "undoEnds", unfollowed := true, recurses := true, apart := false }
def UndoEndsSaid : Prop := undoEndsRow.holds Tryz.pinned (OpenSpec.ofChange undoEndsSpec)

/-- ITS FALSE NEIGHBOUR: 'it returns false'. Refute it at one input. -/
def undoEndsWrong : ChangeSpec := { name := "undoEnds", fn := fun _ => fun
  | [d1, d2, d3, d4] => { results := [.lit (.bool false)], args := [d1, d2, d3, d4] }
  | _ => none }
def UndoEndsWrongFalsely : Prop := undoEndsRow.holds Tryz.pinned (OpenSpec.ofChange undoEndsWrong)

/-- 'veillaw13.UndoTwice': WHATEVER THE INPUT: true; the input reads as it did. -/
def undoTwiceSpec : ChangeSpec := { name := "undoTwice", fn := fun _ => fun
  | [d1, d2, d3, d4] => { results := [.lit (.bool true)], args := [d1, d2, d3, d4] }
  | _ => none }
def undoTwiceRow : OpenClaim := { program := "ytjjokalheloimaagreat", sum := "150aa58a6ec9afea3fa5980d8bb6dd01a327dce59acd093fe61292bea1ed8820", func := "veil/veillaw13.UndoTwice", spec := "undoTwice", unfollowed := true, recurses := true, apart := false }
def UndoTwiceSaid : Prop := undoTwiceRow.holds Tryz.pinned (OpenSpec.ofChange undoTwiceSpec)

/-- ITS FALSE NEIGHBOUR: 'it returns false'. Refute it at one input. -/
def undoTwiceWrong : ChangeSpec := { name := "undoTwice", fn := fun _ => fun
  | [d1, d2, d3, d4] => { results := [.lit (.bool false)], args := [d1, d2, d3, d4] }
  | _ => none }
def UndoTwiceWrongFalsely : Prop := undoTwiceRow.holds Tryz.pinned (OpenSpec.ofChange undoTwiceWrong)

/-- 'veillaw14.Drifts': WHATEVER THE INPUT: true; the input reads as it did. -/
def driftsSpec : ChangeSpec := { name := "drifts", fn := fun _ => fun
  | [d1, d2] => { results := [.lit (.bool true)], args := [d1, d2] }
  | _ => none }
def driftsRow : OpenClaim := { program := "ytjjokalheloimaagreat", sum := "150aa58a6ec9afea3fa5980d8bb6dd01a327dce59acd093fe61292bea1ed8820", func := "veil/veillaw14.Drifts", spec := "drifts", unfollowed := true, recurses := true, apart := false }
def DriftsSaid : Prop := driftsRow.holds Tryz.pinned (OpenSpec.ofChange driftsSpec)

/-- ITS FALSE NEIGHBOUR: 'it returns false'. Refute it at one input. -/
def driftsWrong : ChangeSpec := { name := "drifts", fn := fun _ => fun
  | [d1, d2] => { results := [.lit (.bool false)], args := [d1, d2] }
  | _ => none }
def DriftsWrongFalsely : Prop := driftsRow.holds Tryz.pinned (OpenSpec.ofChange driftsWrong)

/-- 'veillaw14.DriftRises': WHATEVER THE INPUT: true; the input reads as it did. -/
def driftRisesSpec : ChangeSpec := { name := "driftRises", fn := fun _ => fun
  | [d1, d2] => { results := [.lit (.bool true)], args := [d1, d2] }
  | _ => none }
def driftRisesRow : OpenClaim := { program := "ytjjokalheloimaagreat", sum := "150aa58a6ec9afea3fa5980d8bb6dd01a327dce59acd093fe61292bea1ed8820", func := "veil/veillaw14.DriftRises", spec := "driftRises", unfollowed := true, recurses := true, apart := false }
def DriftRisesSaid : Prop := driftRisesRow.holds Tryz.pinned (OpenSpec.ofChange driftRisesSpec)

/-- ITS FALSE NEIGHBOUR: 'it returns false'. Refute it at one input. -/
def driftRisesWrong : ChangeSpec := { name := "driftRises", fn := fun _ => fun
  | [d1, d2] => { results := [.lit (.bool false)], args := [d1, d2] }
  | _ => none }
def DriftRisesWrongFalsely : Prop := driftRisesRow.holds Tryz.pinned (OpenSpec.ofChange driftRisesWrong)

/-- 'veillaw14.DriftTable': WHATEVER THE INPUT: true; the input reads as it did. -/
def driftTableSpec : ChangeSpec := { name := "driftTable", fn := fun _ => fun
  | [d] => { results := [.lit (.bool true)], args := [d] }
  | _ => none }
def driftTableRow : OpenClaim := { program := "ytjjokalheloimaagreat", sum := "150aa58a6ec9afea3fa5980d8bb6dd01a327dce59acd093fe61292bea1ed8820", func := "veil/veillaw14.DriftTable", spec := "driftTable", unfollowed := true, recurses := true, apart := false }
def DriftTableSaid : Prop := driftTableRow.holds Tryz.pinned (OpenSpec.ofChange driftTableSpec)

/-- ITS FALSE NEIGHBOUR: 'it returns false'. Refute it at one input. -/
def driftTableWrong : ChangeSpec := { name := "driftTable", fn := fun _ => fun
  | [d] => { results := [.lit (.bool false)], args := [d] }
  | _ => none }
def DriftTableWrongFalsely : Prop := driftTableRow.holds Tryz.pinned (OpenSpec.ofChange driftTableWrong)

/-- 'veillaw14.DriftForms': WHATEVER THE INPUT: true; the input reads as it did. -/
def driftFormsSpec : ChangeSpec := { name := "driftForms", fn := fun _ => fun
  | [d1, d2] => { results := [.lit (.bool true)], args := [d1, d2] }
  | _ => none }
def driftFormsRow : OpenClaim := { program := "ytjjokalheloimaagreat", sum := "150aa58a6ec9afea3fa5980d8bb6dd01a327dce59acd093fe61292bea1ed8820", func := "veil/veillaw14.DriftForms", spec := "driftForms", unfollowed := true, recurses := true, apart := false }
def DriftFormsSaid : Prop := driftFormsRow.holds Tryz.pinned (OpenSpec.ofChange driftFormsSpec)

/-- ITS FALSE NEIGHBOUR: 'it returns false'. Refute it at one input. -/
def driftFormsWrong : ChangeSpec := { name := "driftForms", fn := fun _ => fun
  | [d1, d2] => { results := [.lit (.bool false)], args := [d1, d2] }
  | _ => none }
def DriftFormsWrongFalsely : Prop := driftFormsRow.holds Tryz.pinned (OpenSpec.ofChange driftFormsWrong)

/-- 'veillaw14.DriftOnce': WHATEVER THE INPUT: true; the input reads as it did. -/
def driftOnceSpec : ChangeSpec := { name := "driftOnce", fn := fun _ => fun
  | [d] => { results := [.lit (.bool true)], args := [d] }
  | _ => none }
def driftOnceRow : OpenClaim := { program := "ytjjokalheloimaagreat", sum := "150aa58a6ec9afea3fa5980d8bb6dd01a327dce59acd093fe61292bea1ed8820", func := "veil/veillaw14.DriftOnce", spec := "driftOnce", unfollowed := true, recurses := true, apart := false }
def DriftOnceSaid : Prop := driftOnceRow.holds Tryz.pinned (OpenSpec.ofChange driftOnceSpec)

/-- ITS FALSE NEIGHBOUR: 'it returns false'. Refute it at one input. -/
def driftOnceWrong : ChangeSpec := { name := "driftOnce", fn := fun _ => fun
  | [d] => { results := [.lit (.bool false)], args := [d] }
  | _ => none }
def DriftOnceWrongFalsely : Prop := driftOnceRow.holds Tryz.pinned (OpenSpec.ofChange driftOnceWrong)

/- THE SECOND FORM. 'bulk': how many values and letters a reading holds, each counted each time it is reached (what is shared counts as often as it is met; a slice's spare places count too). A statement '..UptoSaid' is the law's where the arguments, and the package variables that the reading takes, are together of bulk at most 1048576: NARROWER than '..Said'. Prove '..Said' where nothing that the law and all that it calls make is longer than what came in: it says more and counts as full. Else prove '..UptoSaid'. A law counts once. -/
mutual
def uptoBulk {H : Type} : DataW H → Nat
  | .lit (.string bytes) => bytes.length + 1
  | .lit _ => 1
  | .nil => 1
  | .ptr d => uptoBulk d + 1
  | .slice elems spare => uptoBulkAll elems + uptoBulkAll spare + 1
  | .agg parts => uptoBulkAll parts + 1
  | .iface _ d => uptoBulk d + 1
  | .map entries => uptoBulkEntries entries + 1
  | .held _ => 1
def uptoBulkAll {H : Type} : List (DataW H) → Nat
  | [] => 0
  | d :: r => uptoBulk d + uptoBulkAll r
def uptoBulkEntries {H : Type} : List (Lit × DataW H) → Nat
  | [] => 0
  | x :: r => uptoBulkEntry x + uptoBulkEntries r
def uptoBulkEntry {H : Type} : Lit × DataW H → Nat
  | (.string bytes, d) => bytes.length + uptoBulk d + 1
  | (_, d) => uptoBulk d + 1
 end
def uptoSmall : (H : Type) → List (DataW H) → Bool := fun _ ds => decide (uptoBulkAll ds ≤ 1048576)
def OpenSpec.upto (s : _root_.Go.ChangeSpec) : _root_.Go.OpenSpec := { _root_.Go.OpenSpec.ofChange s with cond := some uptoSmall }

/-- 'veillaw12.Machs', WHERE WHAT IT READS IS OF BULK AT MOST 1048576: true; the input reads as it did. -/
def machsUptoRow : OpenClaim := { program := "ytjjokalheloimaagreat", sum := "150aa58a6ec9afea3fa5980d8bb6dd01a327dce59acd093fe61292bea1ed8820", func := "veil/veillaw12.Machs", spec := "machs", unfollowed := true, recurses := true, apart := false, narrowed := true }
def MachsUptoSaid : Prop := machsUptoRow.holds Tryz.pinned (OpenSpec.upto machsSpec)

/-- 'veillaw12.MachForms', WHERE WHAT IT READS IS OF BULK AT MOST 1048576: true; the input reads as it did. -/
def machFormsUptoRow : OpenClaim := { program := "ytjjokalheloimaagreat", sum := "150aa58a6ec9afea3fa5980d8bb6dd01a327dce59acd093fe61292bea1ed8820", func := "veil/veillaw12.MachForms", spec := "machForms", unfollowed := true, recurses := true, apart := false, narrowed := true }
def MachFormsUptoSaid : Prop := machFormsUptoRow.holds Tryz.pinned (OpenSpec.upto machFormsSpec)

/-- 'veillaw12.MachNews', WHERE WHAT IT READS IS OF BULK AT MOST 1048576: true; the input reads as it did. -/
def machNewsUptoRow : OpenClaim := { program := "ytjjokalheloimaagreat", sum := "150aa58a6ec9afea3fa5980d8bb6dd01a327dce59acd093fe61292bea1ed8820", func := "veil/veillaw12.MachNews", spec := "machNews", unfollowed := true, recurses := true, apart := false, narrowed := true }
def MachNewsUptoSaid : Prop := machNewsUptoRow.holds Tryz.pinned (OpenSpec.upto machNewsSpec)

/-- 'veillaw12.MachTells', WHERE WHAT IT READS IS OF BULK AT MOST 1048576: true; the input reads as it did. -/
def machTellsUptoRow : OpenClaim := { program := "ytjjokalheloimaagreat", sum := "150aa58a6ec9afea3fa5980d8bb6dd01a327dce59acd093fe61292bea1ed8820", func := "veil/veillaw12.MachTells", spec := "machTells", unfollowed := true, recurses := true, apart := false, narrowed := true }
def MachTellsUptoSaid : Prop := machTellsUptoRow.holds Tryz.pinned (OpenSpec.upto machTellsSpec)

/-- 'veillaw12.MachSessions', WHERE WHAT IT READS IS OF BULK AT MOST 1048576: true; the input reads as it did. -/
def machSessionsUptoRow : OpenClaim := { program := "ytjjokalheloimaagreat", sum := "150aa58a6ec9afea3fa5980d8bb6dd01a327dce59acd093fe61292bea1ed8820", func := "veil/veillaw12.MachSessions", spec := "machSessions", unfollowed := true, recurses := true, apart := false, narrowed := true }
def MachSessionsUptoSaid : Prop := machSessionsUptoRow.holds Tryz.pinned (OpenSpec.upto machSessionsSpec)

/-- 'veillaw12.MachNew', WHERE WHAT IT READS IS OF BULK AT MOST 1048576: true; the input reads as it did. -/
def machNewUptoRow : OpenClaim := { program := "ytjjokalheloimaagreat", sum := "150aa58a6ec9afea3fa5980d8bb6dd01a327dce59acd093fe61292bea1ed8820", func := "veil/veillaw12.MachNew", spec := "machNew", unfollowed := true, recurses := true, apart := false, narrowed := true }
def MachNewUptoSaid : Prop := machNewUptoRow.holds Tryz.pinned (OpenSpec.upto machNewSpec)

/-- 'veillaw13.Undos', WHERE WHAT IT READS IS OF BULK AT MOST 1048576: true; the input reads as it did. -/
def undosUptoRow : OpenClaim := { program := "ytjjokalheloimaagreat", sum := "150aa58a6ec9afea3fa5980d8bb6dd01a327dce59acd093fe61292bea1ed8820", func := "veil/veillaw13.Undos", spec := "undos", unfollowed := true, recurses := true, apart := false, narrowed := true }
def UndosUptoSaid : Prop := undosUptoRow.holds Tryz.pinned (OpenSpec.upto undosSpec)

/-- 'veillaw13.UndoTurns', WHERE WHAT IT READS IS OF BULK AT MOST 1048576: true; the input reads as it did. -/
def undoTurnsUptoRow : OpenClaim := { program := "ytjjokalheloimaagreat", sum := "150aa58a6ec9afea3fa5980d8bb6dd01a327dce59acd093fe61292bea1ed8820", func := "veil/veillaw13.UndoTurns", spec := "undoTurns", unfollowed := true, recurses := true, apart := false, narrowed := true }
def UndoTurnsUptoSaid : Prop := undoTurnsUptoRow.holds Tryz.pinned (OpenSpec.upto undoTurnsSpec)

/-- 'veillaw13.UndoForms', WHERE WHAT IT READS IS OF BULK AT MOST 1048576: true; the input reads as it did. -/
def undoFormsUptoRow : OpenClaim := { program := "ytjjokalheloimaagreat", sum := "150aa58a6ec9afea3fa5980d8bb6dd01a327dce59acd093fe61292bea1ed8820", func := "veil/veillaw13.UndoForms", spec := "undoForms", unfollowed := true, recurses := true, apart := false, narrowed := true }
def UndoFormsUptoSaid : Prop := undoFormsUptoRow.holds Tryz.pinned (OpenSpec.upto undoFormsSpec)

/-- 'veillaw13.UndoAgain', WHERE WHAT IT READS IS OF BULK AT MOST 1048576: true; the input reads as it did. -/
def undoAgainUptoRow : OpenClaim := { program := "ytjjokalheloimaagreat", sum := "150aa58a6ec9afea3fa5980d8bb6dd01a327dce59acd093fe61292bea1ed8820", func := "veil/veillaw13.UndoAgain", spec := "undoAgain", unfollowed := true, recurses := true, apart := false, narrowed := true }
def UndoAgainUptoSaid : Prop := undoAgainUptoRow.holds Tryz.pinned (OpenSpec.upto undoAgainSpec)

/-- 'veillaw13.UndoEnds', WHERE WHAT IT READS IS OF BULK AT MOST 1048576: true; the input reads as it did. -/
def undoEndsUptoRow : OpenClaim := { program := "ytjjokalheloimaagreat", sum := "150aa58a6ec9afea3fa5980d8bb6dd01a327dce59acd093fe61292bea1ed8820", func := "veil/veillaw13.UndoEnds", spec := "undoEnds", unfollowed := true, recurses := true, apart := false, narrowed := true }
def UndoEndsUptoSaid : Prop := undoEndsUptoRow.holds Tryz.pinned (OpenSpec.upto undoEndsSpec)

/-- 'veillaw13.UndoTwice', WHERE WHAT IT READS IS OF BULK AT MOST 1048576: true; the input reads as it did. -/
def undoTwiceUptoRow : OpenClaim := { program := "ytjjokalheloimaagreat", sum := "150aa58a6ec9afea3fa5980d8bb6dd01a327dce59acd093fe61292bea1ed8820", func := "veil/veillaw13.UndoTwice", spec := "undoTwice", unfollowed := true, recurses := true, apart := false, narrowed := true }
def UndoTwiceUptoSaid : Prop := undoTwiceUptoRow.holds Tryz.pinned (OpenSpec.upto undoTwiceSpec)

/-- 'veillaw14.Drifts', WHERE WHAT IT READS IS OF BULK AT MOST 1048576: true; the input reads as it did. -/
def driftsUptoRow : OpenClaim := { program := "ytjjokalheloimaagreat", sum := "150aa58a6ec9afea3fa5980d8bb6dd01a327dce59acd093fe61292bea1ed8820", func := "veil/veillaw14.Drifts", spec := "drifts", unfollowed := true, recurses := true, apart := false, narrowed := true }
def DriftsUptoSaid : Prop := driftsUptoRow.holds Tryz.pinned (OpenSpec.upto driftsSpec)

/-- 'veillaw14.DriftRises', WHERE WHAT IT READS IS OF BULK AT MOST 1048576: true; the input reads as it did. -/
def driftRisesUptoRow : OpenClaim := { program := "ytjjokalheloimaagreat", sum := "150aa58a6ec9afea3fa5980d8bb6dd01a327dce59acd093fe61292bea1ed8820", func := "veil/veillaw14.DriftRises", spec := "driftRises", unfollowed := true, recurses := true, apart := false, narrowed := true }
def DriftRisesUptoSaid : Prop := driftRisesUptoRow.holds Tryz.pinned (OpenSpec.upto driftRisesSpec)

/-- 'veillaw14.DriftTable', WHERE WHAT IT READS IS OF BULK AT MOST 1048576: true; the input reads as it did. -/
def driftTableUptoRow : OpenClaim := { program := "ytjjokalheloimaagreat", sum := "150aa58a6ec9afea3fa5980d8bb6dd01a327dce59acd093fe61292bea1ed8820", func := "veil/veillaw14.DriftTable", spec := "driftTable", unfollowed := true, recurses := true, apart := false, narrowed := true }
def DriftTableUptoSaid : Prop := driftTableUptoRow.holds Tryz.pinned (OpenSpec.upto driftTableSpec)

/-- 'veillaw14.DriftForms', WHERE WHAT IT READS IS OF BULK AT MOST 1048576: true; the input reads as it did. -/
def driftFormsUptoRow : OpenClaim := { program := "ytjjokalheloimaagreat", sum := "150aa58a6ec9afea3fa5980d8bb6dd01a327dce59acd093fe61292bea1ed8820", func := "veil/veillaw14.DriftForms", spec := "driftForms", unfollowed := true, recurses := true, apart := false, narrowed := true }
def DriftFormsUptoSaid : Prop := driftFormsUptoRow.holds Tryz.pinned (OpenSpec.upto driftFormsSpec)

/-- 'veillaw14.DriftOnce', WHERE WHAT IT READS IS OF BULK AT MOST 1048576: true; the input reads as it did. -/
def driftOnceUptoRow : OpenClaim := { program := "ytjjokalheloimaagreat", sum := "150aa58a6ec9afea3fa5980d8bb6dd01a327dce59acd093fe61292bea1ed8820", func := "veil/veillaw14.DriftOnce", spec := "driftOnce", unfollowed := true, recurses := true, apart := false, narrowed := true }
def DriftOnceUptoSaid : Prop := driftOnceUptoRow.holds Tryz.pinned (OpenSpec.upto driftOnceSpec)

end Rows
end Go.Proofs.YtjjokalheloimaaGreat
