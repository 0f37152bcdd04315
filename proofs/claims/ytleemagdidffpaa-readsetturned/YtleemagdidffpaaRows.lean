/-
  No cell of these rows narrows 'for every input' (looked for: loops, veiled, ifaces, maps, wideKeys, modest, calm, conditions, laid).
  DERIVED. THE GIVEN ROWS OF THIS SEAT. 6 by the template 'for every input the law returns true; each argument reads behind the call as it read before'; 0 by the template 'total and deterministic' (their statements: YtleemagdidffpaaTotals.lean).
  GIVEN WITH THE SEED: the statements are not yours to turn. If you find one false, say at which input.
  Laid BY PROGRAM, IN A SANDBOX (cutbox-rows.mjs): the forced cells as the released guide's own fill.sh prints them over the translation 99f783e2649fe1ac… (all of the seat's roots in one cut). By AI agents, Wed Nov 11 2026. No macro, syntax, notation, axiom, sorry.
-/
import Derived.Test.YtleemagdidffpaaChecked
import GoSem.Claim
import GoSem.ClaimJoined
import GoSem.ClaimMapViews
import Derived.JoinedTies
import Derived.KernelRfl
namespace Go.Proofs.Ytleemagdidffpaa
/- THE CELL 'sum', in the pinned program and in every row, IS THE sha256 OF THE DUMP (.gsa) THAT YtleemagdidffpaaProg.lean LOADS. Nothing in Lean hashes anything: it is a label: what it is worth is what the hold of that sum in a sandbox is worth. -/
noncomputable def Try.pinned : Pinned := { name := "ytleemagdidffpaa", sum := "99f783e2649fe1ac075c72cc0ddb4b3270506bf28af19f9abc8d9487e7f054ca", checked := Try.checked }
namespace Rows
def none {H : Type} : Left H := { results := [], args := [] }

/-- 'veillaw9.Readsets': WHATEVER THE INPUT: true; the input reads as it did. -/
def readsetsSpec : ChangeSpec := { name := "readsets", fn := fun _ => fun
  | [d1, d2, d3, d4] => { results := [.lit (.bool true)], args := [d1, d2, d3, d4] }
  | _ => none }
def readsetsRow : OpenClaim := { program := "ytleemagdidffpaa", sum := "99f783e2649fe1ac075c72cc0ddb4b3270506bf28af19f9abc8d9487e7f054ca", func := "veil/veillaw9.Readsets", spec := "readsets", unfollowed := true, recurses := true, apart := false }
def ReadsetsSaid : Prop := readsetsRow.holds Try.pinned (OpenSpec.ofChange readsetsSpec)

/-- ITS FALSE NEIGHBOUR: 'it returns false'. Refute it at one input. -/
def readsetsWrong : ChangeSpec := { name := "readsets", fn := fun _ => fun
  | [d1, d2, d3, d4] => { results := [.lit (.bool false)], args := [d1, d2, d3, d4] }
  | _ => none }
def ReadsetsWrongFalsely : Prop := readsetsRow.holds Try.pinned (OpenSpec.ofChange readsetsWrong)

/-- 'veillaw9.ReadsetGood': WHATEVER THE INPUT: true; the input reads as it did. -/
def readsetGoodSpec : ChangeSpec := { name := "readsetGood", fn := fun _ => fun
  | [d1, d2, d3, d4] => { results := [.lit (.bool true)], args := [d1, d2, d3, d4] }
  | _ => none }
def readsetGoodRow : OpenClaim := { program := "ytleemagdidffpaa", sum := "99f783e2649fe1ac075c72cc0ddb4b3270506bf28af19f9abc8d9487e7f054ca", func := "veil/veillaw9.ReadsetGood", spec := "readsetGood", unfollowed := true, recurses := true, apart := false }
def ReadsetGoodSaid : Prop := readsetGoodRow.holds Try.pinned (OpenSpec.ofChange readsetGoodSpec)

/-- ITS FALSE NEIGHBOUR: 'it returns false'. Refute it at one input. -/
def readsetGoodWrong : ChangeSpec := { name := "readsetGood", fn := fun _ => fun
  | [d1, d2, d3, d4] => { results := [.lit (.bool false)], args := [d1, d2, d3, d4] }
  | _ => none }
def ReadsetGoodWrongFalsely : Prop := readsetGoodRow.holds Try.pinned (OpenSpec.ofChange readsetGoodWrong)

/-- 'veillaw9.ReadsetForms': WHATEVER THE INPUT: true; the input reads as it did. -/
def readsetFormsSpec : ChangeSpec := { name := "readsetForms", fn := fun _ => fun
  | [d1, d2] => { results := [.lit (.bool true)], args := [d1, d2] }
  | _ => none }
def readsetFormsRow : OpenClaim := { program := "ytleemagdidffpaa", sum := "99f783e2649fe1ac075c72cc0ddb4b3270506bf28af19f9abc8d9487e7f054ca", func := "veil/veillaw9.ReadsetForms", spec := "readsetForms", unfollowed := true, recurses := true, apart := false }
def ReadsetFormsSaid : Prop := readsetFormsRow.holds Try.pinned (OpenSpec.ofChange readsetFormsSpec)

/-- ITS FALSE NEIGHBOUR: 'it returns false'. Refute it at one input. -/
def readsetFormsWrong : ChangeSpec := { name := "readsetForms", fn := fun _ => fun
  | [d1, d2] => { results := [.lit (.bool false)], args := [d1, d2] }
  | _ => none }
def ReadsetFormsWrongFalsely : Prop := readsetFormsRow.holds Try.pinned (OpenSpec.ofChange readsetFormsWrong)

/-- 'veillaw9.ReadsetFirst': WHATEVER THE INPUT: true; the input reads as it did. -/
def readsetFirstSpec : ChangeSpec := { name := "readsetFirst", fn := fun _ => fun
  | [d] => { results := [.lit (.bool true)], args := [d] }
  | _ => none }
def readsetFirstRow : OpenClaim := { program := "ytleemagdidffpaa", sum := "99f783e2649fe1ac075c72cc0ddb4b3270506bf28af19f9abc8d9487e7f054ca", func := "veil/veillaw9.ReadsetFirst", spec := "readsetFirst", unfollowed := true, recurses := true, apart := false }
def ReadsetFirstSaid : Prop := readsetFirstRow.holds Try.pinned (OpenSpec.ofChange readsetFirstSpec)

/-- ITS FALSE NEIGHBOUR: 'it returns false'. Refute it at one input. -/
def readsetFirstWrong : ChangeSpec := { name := "readsetFirst", fn := fun _ => fun
  | [d] => { results := [.lit (.bool false)], args := [d] }
  | _ => none }
def ReadsetFirstWrongFalsely : Prop := readsetFirstRow.holds Try.pinned (OpenSpec.ofChange readsetFirstWrong)

/-- 'veillaw9.ReadsetTurned': WHATEVER THE INPUT: true; the input reads as it did. -/
def readsetTurnedSpec : ChangeSpec := { name := "readsetTurned", fn := fun _ => fun
  | [d1, d2, d3, d4] => { results := [.lit (.bool true)], args := [d1, d2, d3, d4] }
  | _ => none }
def readsetTurnedRow : OpenClaim := { program := "ytleemagdidffpaa", sum := "99f783e2649fe1ac075c72cc0ddb4b3270506bf28af19f9abc8d9487e7f054ca", func := "veil/veillaw9.ReadsetTurned", spec := "readsetTurned", unfollowed := true, recurses := true, apart := false }
def ReadsetTurnedSaid : Prop := readsetTurnedRow.holds Try.pinned (OpenSpec.ofChange readsetTurnedSpec)

/-- ITS FALSE NEIGHBOUR: 'it returns false'. Refute it at one input. -/
def readsetTurnedWrong : ChangeSpec := { name := "readsetTurned", fn := fun _ => fun
  | [d1, d2, d3, d4] => { results := [.lit (.bool false)], args := [d1, d2, d3, d4] }
  | _ => none }
def ReadsetTurnedWrongFalsely : Prop := readsetTurnedRow.holds Try.pinned (OpenSpec.ofChange readsetTurnedWrong)

/-- 'veillaw9.ReadsetParts': WHATEVER THE INPUT: true; the input reads as it did. -/
def readsetPartsSpec : ChangeSpec := { name := "readsetParts", fn := fun _ => fun
  | [d1, d2, d3, d4] => { results := [.lit (.bool true)], args := [d1, d2, d3, d4] }
  | _ => none }
def readsetPartsRow : OpenClaim := { program := "ytleemagdidffpaa", sum := "99f783e2649fe1ac075c72cc0ddb4b3270506bf28af19f9abc8d9487e7f054ca", func := "veil/veillaw9.ReadsetParts", spec := "readsetParts", unfollowed := true, recurses := true, apart := false }
def ReadsetPartsSaid : Prop := readsetPartsRow.holds Try.pinned (OpenSpec.ofChange readsetPartsSpec)

/-- ITS FALSE NEIGHBOUR: 'it returns false'. Refute it at one input. -/
def readsetPartsWrong : ChangeSpec := { name := "readsetParts", fn := fun _ => fun
  | [d1, d2, d3, d4] => { results := [.lit (.bool false)], args := [d1, d2, d3, d4] }
  | _ => none }
def ReadsetPartsWrongFalsely : Prop := readsetPartsRow.holds Try.pinned (OpenSpec.ofChange readsetPartsWrong)

/- THE SECOND FORM. 'bulk': how many values and letters a reading holds, each counted each time it is reached (what is shared counts as often as it is met; a slice's spare places count too). A statement '..UptoSaid' is the law's where the arguments, and the package variables that the reading takes, are together of bulk at most 1048576: NARROWER than '..Said'. Prove '..Said' where nothing that the law and all that it calls make is longer than what came in: it says more and counts as full. Else prove '..UptoSaid'. A law counts once. -/
mutual
def uptoBulk {H : Type} : DataW H → Nat
  | .lit (.string bytes) => bytes.length + 1
  | .lit _ => 1
  | .nil => 1
  | .ptr d => uptoBulk d + 1
  | .slice elems spare => uptoBulkAll elems + uptoBulkAll spare + 1
  | .agg parts => uptoBulkAll parts + 1
  | .iface _ d => uptoBulk d + 1
  | .map entries => uptoBulkEntries entries + 1
  | .held _ => 1
def uptoBulkAll {H : Type} : List (DataW H) → Nat
  | [] => 0
  | d :: r => uptoBulk d + uptoBulkAll r
def uptoBulkEntries {H : Type} : List (Lit × DataW H) → Nat
  | [] => 0
  | x :: r => uptoBulkEntry x + uptoBulkEntries r
def uptoBulkEntry {H : Type} : Lit × DataW H → Nat
  | (.string bytes, d) => bytes.length + uptoBulk d + 1
  | (_, d) => uptoBulk d + 1
 end
def uptoSmall : (H : Type) → List (DataW H) → Bool := fun _ ds => decide (uptoBulkAll ds ≤ 1048576)
def OpenSpec.upto (s : _root_.Go.ChangeSpec) : _root_.Go.OpenSpec := { _root_.Go.OpenSpec.ofChange s with cond := some uptoSmall }

/-- 'veillaw9.Readsets', WHERE WHAT IT READS IS OF BULK AT MOST 1048576: true; the input reads as it did. -/
def readsetsUptoRow : OpenClaim := { program := "ytleemagdidffpaa", sum := "99f783e2649fe1ac075c72cc0ddb4b3270506bf28af19f9abc8d9487e7f054ca", func := "veil/veillaw9.Readsets", spec := "readsets", unfollowed := true, recurses := true, apart := false, narrowed := true }
def ReadsetsUptoSaid : Prop := readsetsUptoRow.holds Try.pinned (OpenSpec.upto readsetsSpec)

/-- 'veillaw9.ReadsetGood', WHERE WHAT IT READS IS OF BULK AT MOST 1048576: true; the input reads as it did. -/
def readsetGoodUptoRow : OpenClaim := { program := "ytleemagdidffpaa", sum := "99f783e2649fe1ac075c72cc0ddb4b3270506bf28af19f9abc8d9487e7f054ca", func := "veil/veillaw9.ReadsetGood", spec := "readsetGood", unfollowed := true, recurses := true, apart := false, narrowed := true }
def ReadsetGoodUptoSaid : Prop := readsetGoodUptoRow.holds Try.pinned (OpenSpec.upto readsetGoodSpec)

/-- 'veillaw9.ReadsetForms', WHERE WHAT IT READS IS OF BULK AT MOST 1048576: true; the input reads as it did. -/
def readsetFormsUptoRow : OpenClaim := { program := "ytleemagdidffpaa", sum := "99f783e2649fe1ac075c72cc0ddb4b3270506bf28af19f9abc8d9487e7f054ca", func := "veil/veillaw9.ReadsetForms", spec := "readsetForms", unfollowed := true, recurses := true, apart := false, narrowed := true }
def ReadsetFormsUptoSaid : Prop := readsetFormsUptoRow.holds Try.pinned (OpenSpec.upto readsetFormsSpec)

/-- 'veillaw9.ReadsetFirst', WHERE WHAT IT READS IS OF BULK AT MOST 1048576: true; the input reads as it did. -/
def readsetFirstUptoRow : OpenClaim := { program := "ytleemagdidffpaa", sum := "99f783e2649fe1ac075c72cc0ddb4b3270506bf28af19f9abc8d9487e7f054ca", func := "veil/veillaw9.ReadsetFirst", spec := "readsetFirst", unfollowed := true, recurses := true, apart := false, narrowed := true }
def ReadsetFirstUptoSaid : Prop := readsetFirstUptoRow.holds Try.pinned (OpenSpec.upto readsetFirstSpec)

/-- 'veillaw9.ReadsetTurned', WHERE WHAT IT READS IS OF BULK AT MOST 1048576: true; the input reads as it did. -/
def readsetTurnedUptoRow : OpenClaim := { program := "ytleemagdidffpaa", sum := "99f783e2649fe1ac075c72cc0ddb4b3270506bf28af19f9abc8d9487e7f054ca", func := "veil/veillaw9.ReadsetTurned", spec := "readsetTurned", unfollowed := true, recurses := true, apart := false, narrowed := true }
def ReadsetTurnedUptoSaid : Prop := readsetTurnedUptoRow.holds Try.pinned (OpenSpec.upto readsetTurnedSpec)

/-- 'veillaw9.ReadsetParts', WHERE WHAT IT READS IS OF BULK AT MOST 1048576: true; the input reads as it did. -/
def readsetPartsUptoRow : OpenClaim := { program := "ytleemagdidffpaa", sum := "99f783e2649fe1ac075c72cc0ddb4b3270506bf28af19f9abc8d9487e7f054ca", func := "veil/veillaw9.ReadsetParts", spec := "readsetParts", unfollowed := true, recurses := true, apart := false, narrowed := true }
def ReadsetPartsUptoSaid : Prop := readsetPartsUptoRow.holds Try.pinned (OpenSpec.upto readsetPartsSpec)

end Rows
end Go.Proofs.Ytleemagdidffpaa
