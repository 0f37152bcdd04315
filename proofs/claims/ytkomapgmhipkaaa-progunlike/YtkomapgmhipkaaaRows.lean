/-
  No cell of these rows narrows 'for every input' (looked for: loops, veiled, ifaces, maps, wideKeys, modest, calm, conditions, laid).
  DERIVED. THE GIVEN ROWS OF THIS SEAT. 5 by the template 'for every input the law returns true; each argument reads behind the call as it read before'; 0 by the template 'total and deterministic' (their statements: YtkomapgmhipkaaaTotals.lean).
  GIVEN WITH THE SEED: the statements are not yours to turn. If you find one false, say at which input.
  Laid BY PROGRAM, IN A SANDBOX (cutbox-rows.mjs): the forced cells as the released guide's own fill.sh prints them over the translation aacadaf769ec101f… (all of the seat's roots in one cut). By AI agents, Wed Nov 11 2026. No macro, syntax, notation, axiom, sorry.
-/
import Derived.Test.YtkomapgmhipkaaaChecked
import GoSem.Claim
import GoSem.ClaimJoined
import GoSem.ClaimMapViews
import Derived.JoinedTies
import Derived.KernelRfl
namespace Go.Proofs.Ytkomapgmhipkaaa
/- THE CELL 'sum', in the pinned program and in every row, IS THE sha256 OF THE DUMP (.gsa) THAT YtkomapgmhipkaaaProg.lean LOADS. Nothing in Lean hashes anything: it is a label: what it is worth is what the hold of that sum in a sandbox is worth. -/
noncomputable def Try.pinned : Pinned := { name := "ytkomapgmhipkaaa", sum := "aacadaf769ec101f32371c51f05d268e4af93477933b0ff3f15f31f5fa2d973c", checked := Try.checked }
namespace Rows
def none {H : Type} : Left H := { results := [], args := [] }

/-- 'veillaw8.Progs': WHATEVER THE INPUT: true; the input reads as it did. -/
def progsSpec : ChangeSpec := { name := "progs", fn := fun _ => fun
  | [d1, d2] => { results := [.lit (.bool true)], args := [d1, d2] }
  | _ => none }
def progsRow : OpenClaim := { program := "ytkomapgmhipkaaa", sum := "aacadaf769ec101f32371c51f05d268e4af93477933b0ff3f15f31f5fa2d973c", func := "veil/veillaw8.Progs", spec := "progs", apart := false }
def ProgsSaid : Prop := progsRow.holds Try.pinned (OpenSpec.ofChange progsSpec)

/-- ITS FALSE NEIGHBOUR: 'it returns false'. Refute it at one input. -/
def progsWrong : ChangeSpec := { name := "progs", fn := fun _ => fun
  | [d1, d2] => { results := [.lit (.bool false)], args := [d1, d2] }
  | _ => none }
def ProgsWrongFalsely : Prop := progsRow.holds Try.pinned (OpenSpec.ofChange progsWrong)

/-- 'veillaw8.ProgBack': WHATEVER THE INPUT: true; the input reads as it did. -/
def progBackSpec : ChangeSpec := { name := "progBack", fn := fun _ => fun
  | [d1, d2] => { results := [.lit (.bool true)], args := [d1, d2] }
  | _ => none }
def progBackRow : OpenClaim := { program := "ytkomapgmhipkaaa", sum := "aacadaf769ec101f32371c51f05d268e4af93477933b0ff3f15f31f5fa2d973c", func := "veil/veillaw8.ProgBack", spec := "progBack", apart := false }
def ProgBackSaid : Prop := progBackRow.holds Try.pinned (OpenSpec.ofChange progBackSpec)

/-- ITS FALSE NEIGHBOUR: 'it returns false'. Refute it at one input. -/
def progBackWrong : ChangeSpec := { name := "progBack", fn := fun _ => fun
  | [d1, d2] => { results := [.lit (.bool false)], args := [d1, d2] }
  | _ => none }
def ProgBackWrongFalsely : Prop := progBackRow.holds Try.pinned (OpenSpec.ofChange progBackWrong)

/-- 'veillaw8.ProgForms': WHATEVER THE INPUT: true; the input reads as it did. -/
def progFormsSpec : ChangeSpec := { name := "progForms", fn := fun _ => fun
  | [d1, d2] => { results := [.lit (.bool true)], args := [d1, d2] }
  | _ => none }
def progFormsRow : OpenClaim := { program := "ytkomapgmhipkaaa", sum := "aacadaf769ec101f32371c51f05d268e4af93477933b0ff3f15f31f5fa2d973c", func := "veil/veillaw8.ProgForms", spec := "progForms", apart := false }
def ProgFormsSaid : Prop := progFormsRow.holds Try.pinned (OpenSpec.ofChange progFormsSpec)

/-- ITS FALSE NEIGHBOUR: 'it returns false'. Refute it at one input. -/
def progFormsWrong : ChangeSpec := { name := "progForms", fn := fun _ => fun
  | [d1, d2] => { results := [.lit (.bool false)], args := [d1, d2] }
  | _ => none }
def ProgFormsWrongFalsely : Prop := progFormsRow.holds Try.pinned (OpenSpec.ofChange progFormsWrong)

/-- 'veillaw8.ProgUnlike': WHATEVER THE INPUT: true; the input reads as it did. -/
def progUnlikeSpec : ChangeSpec := { name := "progUnlike", fn := fun _ => fun
  | [d1, d2, d3] => { results := [.lit (.bool true)], args := [d1, d2, d3] }
  | _ => none }
def progUnlikeRow : OpenClaim := { program := "ytkomapgmhipkaaa", sum := "aacadaf769ec101f32371c51f05d268e4af93477933b0ff3f15f31f5fa2d973c", func := "veil/veillaw8.ProgUnlike", spec := "progUnlike", apart := false }
def ProgUnlikeSaid : Prop := progUnlikeRow.holds Try.pinned (OpenSpec.ofChange progUnlikeSpec)

/-- ITS FALSE NEIGHBOUR: 'it returns false'. Refute it at one input. -/
def progUnlikeWrong : ChangeSpec := { name := "progUnlike", fn := fun _ => fun
  | [d1, d2, d3] => { results := [.lit (.bool false)], args := [d1, d2, d3] }
  | _ => none }
def ProgUnlikeWrongFalsely : Prop := progUnlikeRow.holds Try.pinned (OpenSpec.ofChange progUnlikeWrong)

/-- 'veillaw8.ProgParts': WHATEVER THE INPUT: true; the input reads as it did. -/
def progPartsSpec : ChangeSpec := { name := "progParts", fn := fun _ => fun
  | [d1, d2] => { results := [.lit (.bool true)], args := [d1, d2] }
  | _ => none }
def progPartsRow : OpenClaim := { program := "ytkomapgmhipkaaa", sum := "aacadaf769ec101f32371c51f05d268e4af93477933b0ff3f15f31f5fa2d973c", func := "veil/veillaw8.ProgParts", spec := "progParts", apart := false }
def ProgPartsSaid : Prop := progPartsRow.holds Try.pinned (OpenSpec.ofChange progPartsSpec)

/-- ITS FALSE NEIGHBOUR: 'it returns false'. Refute it at one input. -/
def progPartsWrong : ChangeSpec := { name := "progParts", fn := fun _ => fun
  | [d1, d2] => { results := [.lit (.bool false)], args := [d1, d2] }
  | _ => none }
def ProgPartsWrongFalsely : Prop := progPartsRow.holds Try.pinned (OpenSpec.ofChange progPartsWrong)

/- THE SECOND FORM. 'bulk': how many values and letters a reading holds, each counted each time it is reached (what is shared counts as often as it is met; a slice's spare places count too). A statement '..UptoSaid' is the law's where the arguments, and the package variables that the reading takes, are together of bulk at most 1048576: NARROWER than '..Said'. Prove '..Said' where nothing that the law and all that it calls make is longer than what came in: it says more and counts as full. Else prove '..UptoSaid'. A law counts once. -/
mutual
def uptoBulk {H : Type} : DataW H → Nat
  | .lit (.string bytes) => bytes.length + 1
  | .lit _ => 1
  | .nil => 1
  | .ptr d => uptoBulk d + 1
  | .slice elems spare => uptoBulkAll elems + uptoBulkAll spare + 1
  | .agg parts => uptoBulkAll parts + 1
  | .iface _ d => uptoBulk d + 1
  | .map entries => uptoBulkEntries entries + 1
  | .held _ => 1
def uptoBulkAll {H : Type} : List (DataW H) → Nat
  | [] => 0
  | d :: r => uptoBulk d + uptoBulkAll r
def uptoBulkEntries {H : Type} : List (Lit × DataW H) → Nat
  | [] => 0
  | x :: r => uptoBulkEntry x + uptoBulkEntries r
def uptoBulkEntry {H : Type} : Lit × DataW H → Nat
  | (.string bytes, d) => bytes.length + uptoBulk d + 1
  | (_, d) => uptoBulk d + 1
 end
def uptoSmall : (H : Type) → List (DataW H) → Bool := fun _ ds => decide (uptoBulkAll ds ≤ 1048576)
def OpenSpec.upto (s : _root_.Go.ChangeSpec) : _root_.Go.OpenSpec := { _root_.Go.OpenSpec.ofChange s with cond := some uptoSmall }

/-- 'veillaw8.Progs', WHERE WHAT IT READS IS OF BULK AT MOST 1048576: true; the input reads as it did. -/
def progsUptoRow : OpenClaim := { program := "ytkomapgmhipkaaa", sum := "aacadaf769ec101f32371c51f05d268e4af93477933b0ff3f15f31f5fa2d973c", func := "veil/veillaw8.Progs", spec := "progs", apart := false, narrowed := true }
def ProgsUptoSaid : Prop := progsUptoRow.holds Try.pinned (OpenSpec.upto progsSpec)

/-- 'veillaw8.ProgBack', WHERE WHAT IT READS IS OF BULK AT MOST 1048576: true; the input reads as it did. -/
def progBackUptoRow : OpenClaim := { program := "ytkomapgmhipkaaa", sum := "aacadaf769ec101f32371c51f05d268e4af93477933b0ff3f15f31f5fa2d973c", func := "veil/veillaw8.ProgBack", spec := "progBack", apart := false, narrowed := true }
def ProgBackUptoSaid : Prop := progBackUptoRow.holds Try.pinned (OpenSpec.upto progBackSpec)

/-- 'veillaw8.ProgForms', WHERE WHAT IT READS IS OF BULK AT MOST 1048576: true; the input reads as it did. -/
def progFormsUptoRow : OpenClaim := { program := "ytkomapgmhipkaaa", sum := "aacadaf769ec101f32371c51f05d268e4af93477933b0ff3f15f31f5fa2d973c", func := "veil/veillaw8.ProgForms", spec := "progForms", apart := false, narrowed := true }
def ProgFormsUptoSaid : Prop := progFormsUptoRow.holds Try.pinned (OpenSpec.upto progFormsSpec)

/-- 'veillaw8.ProgUnlike', WHERE WHAT IT READS IS OF BULK AT MOST 1048576: true; the input reads as it did. -/
def progUnlikeUptoRow : OpenClaim := { program := "ytkomapgmhipkaaa", sum := "aacadaf769ec101f32371c51f05d268e4af93477933b0ff3f15f31f5fa2d973c", func := "veil/veillaw8.ProgUnlike", spec := "progUnlike", apart := false, narrowed := true }
def ProgUnlikeUptoSaid : Prop := progUnlikeUptoRow.holds Try.pinned (OpenSpec.upto progUnlikeSpec)

/-- 'veillaw8.ProgParts', WHERE WHAT IT READS IS OF BULK AT MOST 1048576: true; the input reads as it did. -/
def progPartsUptoRow : OpenClaim := { program := "ytkomapgmhipkaaa", sum := "aacadaf769ec101f32371c51f05d268e4af93477933b0ff3f15f31f5fa2d973c", func := "veil/veillaw8.ProgParts", spec := "progParts", apart := false, narrowed := true }
def ProgPartsUptoSaid : Prop := progPartsUptoRow.holds Try.pinned (OpenSpec.upto progPartsSpec)

end Rows
end Go.Proofs.Ytkomapgmhipkaaa
