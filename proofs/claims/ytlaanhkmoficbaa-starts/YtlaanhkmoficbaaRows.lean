/-
  No cell of these rows narrows 'for every input' (looked for: loops, veiled, ifaces, maps, wideKeys, modest, calm, conditions, laid).
  DERIVED. THE GIVEN ROWS OF THIS SEAT. 4 by the template 'for every input the law returns true; each argument reads behind the call as it read before'; 0 by the template 'total and deterministic' (their statements: YtlaanhkmoficbaaTotals.lean).
  GIVEN WITH THE SEED: the statements are not yours to turn. If you find one false, say at which input.
  Laid BY PROGRAM, IN A SANDBOX (cutbox-rows.mjs): the forced cells as the released guide's own fill.sh prints them over the translation 8fe44187fd53261e… (all of the seat's roots in one cut). By AI agents, Wed Nov 11 2026. No macro, syntax, notation, axiom, sorry.
-/
import Derived.Test.YtlaanhkmoficbaaChecked
import GoSem.Claim
import GoSem.ClaimJoined
import GoSem.ClaimMapViews
import Derived.JoinedTies
import Derived.KernelRfl
namespace Go.Proofs.Ytlaanhkmoficbaa
/- THE CELL 'sum', in the pinned program and in every row, IS THE sha256 OF THE DUMP (.gsa) THAT YtlaanhkmoficbaaProg.lean LOADS. Nothing in Lean hashes anything: it is a label: what it is worth is what the hold of that sum in a sandbox is worth. -/
noncomputable def Try.pinned : Pinned := { name := "ytlaanhkmoficbaa", sum := "8fe44187fd53261e0dc22c329139fde02ad1052761e68ac8d0a7740631025d35", checked := Try.checked }
namespace Rows
def none {H : Type} : Left H := { results := [], args := [] }

/-- 'veillaw11.Starts': WHATEVER THE INPUT: true; the input reads as it did. -/
def startsSpec : ChangeSpec := { name := "starts", fn := fun _ => fun
  | [d] => { results := [.lit (.bool true)], args := [d] }
  | _ => none }
def startsRow : OpenClaim := { program := "ytlaanhkmoficbaa", sum := "8fe44187fd53261e0dc22c329139fde02ad1052761e68ac8d0a7740631025d35", func := "veil/veillaw11.Starts", spec := "starts", apart := false }
def StartsSaid : Prop := startsRow.holds Try.pinned (OpenSpec.ofChange startsSpec)

/-- ITS FALSE NEIGHBOUR: 'it returns false'. Refute it at one input. -/
def startsWrong : ChangeSpec := { name := "starts", fn := fun _ => fun
  | [d] => { results := [.lit (.bool false)], args := [d] }
  | _ => none }
def StartsWrongFalsely : Prop := startsRow.holds Try.pinned (OpenSpec.ofChange startsWrong)

/-- 'veillaw11.StartForms': WHATEVER THE INPUT: true; the input reads as it did. -/
def startFormsSpec : ChangeSpec := { name := "startForms", fn := fun _ => fun
  | [d1, d2] => { results := [.lit (.bool true)], args := [d1, d2] }
  | _ => none }
def startFormsRow : OpenClaim := { program := "ytlaanhkmoficbaa", sum := "8fe44187fd53261e0dc22c329139fde02ad1052761e68ac8d0a7740631025d35", func := "veil/veillaw11.StartForms", spec := "startForms", apart := false }
def StartFormsSaid : Prop := startFormsRow.holds Try.pinned (OpenSpec.ofChange startFormsSpec)

/-- ITS FALSE NEIGHBOUR: 'it returns false'. Refute it at one input. -/
def startFormsWrong : ChangeSpec := { name := "startForms", fn := fun _ => fun
  | [d1, d2] => { results := [.lit (.bool false)], args := [d1, d2] }
  | _ => none }
def StartFormsWrongFalsely : Prop := startFormsRow.holds Try.pinned (OpenSpec.ofChange startFormsWrong)

/-- 'veillaw11.StartClears': WHATEVER THE INPUT: true; the input reads as it did. -/
def startClearsSpec : ChangeSpec := { name := "startClears", fn := fun _ => fun
  | [d] => { results := [.lit (.bool true)], args := [d] }
  | _ => none }
def startClearsRow : OpenClaim := { program := "ytlaanhkmoficbaa", sum := "8fe44187fd53261e0dc22c329139fde02ad1052761e68ac8d0a7740631025d35", func := "veil/veillaw11.StartClears", spec := "startClears", apart := false }
def StartClearsSaid : Prop := startClearsRow.holds Try.pinned (OpenSpec.ofChange startClearsSpec)

/-- ITS FALSE NEIGHBOUR: 'it returns false'. Refute it at one input. -/
def startClearsWrong : ChangeSpec := { name := "startClears", fn := fun _ => fun
  | [d] => { results := [.lit (.bool false)], args := [d] }
  | _ => none }
def StartClearsWrongFalsely : Prop := startClearsRow.holds Try.pinned (OpenSpec.ofChange startClearsWrong)

/-- 'veillaw11.StartApart': WHATEVER THE INPUT: true; the input reads as it did. -/
def startApartSpec : ChangeSpec := { name := "startApart", fn := fun _ => fun
  | [d] => { results := [.lit (.bool true)], args := [d] }
  | _ => none }
def startApartRow : OpenClaim := { program := "ytlaanhkmoficbaa", sum := "8fe44187fd53261e0dc22c329139fde02ad1052761e68ac8d0a7740631025d35", func := "veil/veillaw11.StartApart", spec := "startApart", apart := false }
def StartApartSaid : Prop := startApartRow.holds Try.pinned (OpenSpec.ofChange startApartSpec)

/-- ITS FALSE NEIGHBOUR: 'it returns false'. Refute it at one input. -/
def startApartWrong : ChangeSpec := { name := "startApart", fn := fun _ => fun
  | [d] => { results := [.lit (.bool false)], args := [d] }
  | _ => none }
def StartApartWrongFalsely : Prop := startApartRow.holds Try.pinned (OpenSpec.ofChange startApartWrong)

/- THE SECOND FORM. 'bulk': how many values and letters a reading holds, each counted each time it is reached (what is shared counts as often as it is met; a slice's spare places count too). A statement '..UptoSaid' is the law's where the arguments, and the package variables that the reading takes, are together of bulk at most 1048576: NARROWER than '..Said'. Prove '..Said' where nothing that the law and all that it calls make is longer than what came in: it says more and counts as full. Else prove '..UptoSaid'. A law counts once. -/
mutual
def uptoBulk {H : Type} : DataW H → Nat
  | .lit (.string bytes) => bytes.length + 1
  | .lit _ => 1
  | .nil => 1
  | .ptr d => uptoBulk d + 1
  | .slice elems spare => uptoBulkAll elems + uptoBulkAll spare + 1
  | .agg parts => uptoBulkAll parts + 1
  | .iface _ d => uptoBulk d + 1
  | .map entries => uptoBulkEntries entries + 1
  | .held _ => 1
def uptoBulkAll {H : Type} : List (DataW H) → Nat
  | [] => 0
  | d :: r => uptoBulk d + uptoBulkAll r
def uptoBulkEntries {H : Type} : List (Lit × DataW H) → Nat
  | [] => 0
  | x :: r => uptoBulkEntry x + uptoBulkEntries r
def uptoBulkEntry {H : Type} : Lit × DataW H → Nat
  | (.string bytes, d) => bytes.length + uptoBulk d + 1
  | (_, d) => uptoBulk d + 1
 end
def uptoSmall : (H : Type) → List (DataW H) → Bool := fun _ ds => decide (uptoBulkAll ds ≤ 1048576)
def OpenSpec.upto (s : _root_.Go.ChangeSpec) : _root_.Go.OpenSpec := { _root_.Go.OpenSpec.ofChange s with cond := some uptoSmall }

/-- 'veillaw11.Starts', WHERE WHAT IT READS IS OF BULK AT MOST 1048576: true; the input reads as it did. -/
def startsUptoRow : OpenClaim := { program := "ytlaanhkmoficbaa", sum := "8fe44187fd53261e0dc22c329139fde02ad1052761e68ac8d0a7740631025d35", func := "veil/veillaw11.Starts", spec := "starts", apart := false, narrowed := true }
def StartsUptoSaid : Prop := startsUptoRow.holds Try.pinned (OpenSpec.upto startsSpec)

/-- 'veillaw11.StartForms', WHERE WHAT IT READS IS OF BULK AT MOST 1048576: true; the input reads as it did. -/
def startFormsUptoRow : OpenClaim := { program := "ytlaanhkmoficbaa", sum := "8fe44187fd53261e0dc22c329139fde02ad1052761e68ac8d0a7740631025d35", func := "veil/veillaw11.StartForms", spec := "startForms", apart := false, narrowed := true }
def StartFormsUptoSaid : Prop := startFormsUptoRow.holds Try.pinned (OpenSpec.upto startFormsSpec)

/-- 'veillaw11.StartClears', WHERE WHAT IT READS IS OF BULK AT MOST 1048576: true; the input reads as it did. -/
def startClearsUptoRow : OpenClaim := { program := "ytlaanhkmoficbaa", sum := "8fe44187fd53261e0dc22c329139fde02ad1052761e68ac8d0a7740631025d35", func := "veil/veillaw11.StartClears", spec := "startClears", apart := false, narrowed := true }
def StartClearsUptoSaid : Prop := startClearsUptoRow.holds Try.pinned (OpenSpec.upto startClearsSpec)

/-- 'veillaw11.StartApart', WHERE WHAT IT READS IS OF BULK AT MOST 1048576: true; the input reads as it did. -/
def startApartUptoRow : OpenClaim := { program := "ytlaanhkmoficbaa", sum := "8fe44187fd53261e0dc22c329139fde02ad1052761e68ac8d0a7740631025d35", func := "veil/veillaw11.StartApart", spec := "startApart", apart := false, narrowed := true }
def StartApartUptoSaid : Prop := startApartUptoRow.holds Try.pinned (OpenSpec.upto startApartSpec)

end Rows
end Go.Proofs.Ytlaanhkmoficbaa
