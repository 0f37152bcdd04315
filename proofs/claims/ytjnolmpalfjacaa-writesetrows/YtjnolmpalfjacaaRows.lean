/-
  No cell of these rows narrows 'for every input' (looked for: loops, veiled, ifaces, maps, wideKeys, modest, calm, conditions, laid).
  DERIVED. THE GIVEN ROWS OF THIS SEAT. 5 by the template 'for every input the law returns true; each argument reads behind the call as it read before'; 0 by the template 'total and deterministic' (their statements: YtjnolmpalfjacaaTotals.lean).
  GIVEN WITH THE SEED: the statements are not yours to turn. If you find one false, say at which input.
  Laid BY PROGRAM, IN A SANDBOX (cutbox-rows.mjs): the forced cells as the released guide's own fill.sh prints them over the translation c8477f5e79d1c7d5… (all of the seat's roots in one cut). By AI agents, Wed Nov 11 2026. No macro, syntax, notation, axiom, sorry.
-/
import Derived.Test.YtjnolmpalfjacaaChecked
import GoSem.Claim
import GoSem.ClaimJoined
import GoSem.ClaimMapViews
import Derived.JoinedTies
import Derived.KernelRfl
namespace Go.Proofs.Ytjnolmpalfjacaa
/- THE CELL 'sum', in the pinned program and in every row, IS THE sha256 OF THE DUMP (.gsa) THAT YtjnolmpalfjacaaProg.lean LOADS. Nothing in Lean hashes anything: it is a label: what it is worth is what the hold of that sum in a sandbox is worth. -/
noncomputable def Try.pinned : Pinned := { name := "ytjnolmpalfjacaa", sum := "c8477f5e79d1c7d5c05424649ea58c5200535aba53c976ea87befbd52e8d6b10", checked := Try.checked }
namespace Rows
def none {H : Type} : Left H := { results := [], args := [] }

/-- 'veillaw10.Writesets': WHATEVER THE INPUT: true; the input reads as it did. -/
def writesetsSpec : ChangeSpec := { name := "writesets", fn := fun _ => fun
  | [d1, d2, d3, d4] => { results := [.lit (.bool true)], args := [d1, d2, d3, d4] }
  | _ => none }
def writesetsRow : OpenClaim := { program := "ytjnolmpalfjacaa", sum := "c8477f5e79d1c7d5c05424649ea58c5200535aba53c976ea87befbd52e8d6b10", func := "veil/veillaw10.Writesets", spec := "writesets", unfollowed := true, recurses := true, apart := false }
def WritesetsSaid : Prop := writesetsRow.holds Try.pinned (OpenSpec.ofChange writesetsSpec)

/-- ITS FALSE NEIGHBOUR: 'it returns false'. Refute it at one input. -/
def writesetsWrong : ChangeSpec := { name := "writesets", fn := fun _ => fun
  | [d1, d2, d3, d4] => { results := [.lit (.bool false)], args := [d1, d2, d3, d4] }
  | _ => none }
def WritesetsWrongFalsely : Prop := writesetsRow.holds Try.pinned (OpenSpec.ofChange writesetsWrong)

/-- 'veillaw10.WritesetLast': WHATEVER THE INPUT: true; the input reads as it did. -/
def writesetLastSpec : ChangeSpec := { name := "writesetLast", fn := fun _ => fun
  | [d] => { results := [.lit (.bool true)], args := [d] }
  | _ => none }
def writesetLastRow : OpenClaim := { program := "ytjnolmpalfjacaa", sum := "c8477f5e79d1c7d5c05424649ea58c5200535aba53c976ea87befbd52e8d6b10", func := "veil/veillaw10.WritesetLast", spec := "writesetLast", unfollowed := true, recurses := true, apart := false }
def WritesetLastSaid : Prop := writesetLastRow.holds Try.pinned (OpenSpec.ofChange writesetLastSpec)

/-- ITS FALSE NEIGHBOUR: 'it returns false'. Refute it at one input. -/
def writesetLastWrong : ChangeSpec := { name := "writesetLast", fn := fun _ => fun
  | [d] => { results := [.lit (.bool false)], args := [d] }
  | _ => none }
def WritesetLastWrongFalsely : Prop := writesetLastRow.holds Try.pinned (OpenSpec.ofChange writesetLastWrong)

/-- 'veillaw10.WritesetForms': WHATEVER THE INPUT: true; the input reads as it did. -/
def writesetFormsSpec : ChangeSpec := { name := "writesetForms", fn := fun _ => fun
  | [d1, d2] => { results := [.lit (.bool true)], args := [d1, d2] }
  | _ => none }
def writesetFormsRow : OpenClaim := { program := "ytjnolmpalfjacaa", sum := "c8477f5e79d1c7d5c05424649ea58c5200535aba53c976ea87befbd52e8d6b10", func := "veil/veillaw10.WritesetForms", spec := "writesetForms", unfollowed := true, recurses := true, apart := false }
def WritesetFormsSaid : Prop := writesetFormsRow.holds Try.pinned (OpenSpec.ofChange writesetFormsSpec)

/-- ITS FALSE NEIGHBOUR: 'it returns false'. Refute it at one input. -/
def writesetFormsWrong : ChangeSpec := { name := "writesetForms", fn := fun _ => fun
  | [d1, d2] => { results := [.lit (.bool false)], args := [d1, d2] }
  | _ => none }
def WritesetFormsWrongFalsely : Prop := writesetFormsRow.holds Try.pinned (OpenSpec.ofChange writesetFormsWrong)

/-- 'veillaw10.WritesetLevels': WHATEVER THE INPUT: true; the input reads as it did. -/
def writesetLevelsSpec : ChangeSpec := { name := "writesetLevels", fn := fun _ => fun
  | [d1, d2] => { results := [.lit (.bool true)], args := [d1, d2] }
  | _ => none }
def writesetLevelsRow : OpenClaim := { program := "ytjnolmpalfjacaa", sum := "c8477f5e79d1c7d5c05424649ea58c5200535aba53c976ea87befbd52e8d6b10", func := "veil/veillaw10.WritesetLevels", spec := "writesetLevels", unfollowed := true, recurses := true, apart := false }
def WritesetLevelsSaid : Prop := writesetLevelsRow.holds Try.pinned (OpenSpec.ofChange writesetLevelsSpec)

/-- ITS FALSE NEIGHBOUR: 'it returns false'. Refute it at one input. -/
def writesetLevelsWrong : ChangeSpec := { name := "writesetLevels", fn := fun _ => fun
  | [d1, d2] => { results := [.lit (.bool false)], args := [d1, d2] }
  | _ => none }
def WritesetLevelsWrongFalsely : Prop := writesetLevelsRow.holds Try.pinned (OpenSpec.ofChange writesetLevelsWrong)

/-- 'veillaw10.WritesetRows': WHATEVER THE INPUT: true; the input reads as it did. -/
def writesetRowsSpec : ChangeSpec := { name := "writesetRows", fn := fun _ => fun
  | [d1, d2, d3] => { results := [.lit (.bool true)], args := [d1, d2, d3] }
  | _ => none }
def writesetRowsRow : OpenClaim := { program := "ytjnolmpalfjacaa", sum := "c8477f5e79d1c7d5c05424649ea58c5200535aba53c976ea87befbd52e8d6b10", func := "veil/veillaw10.WritesetRows", spec := "writesetRows", unfollowed := true, recurses := true, apart := false }
def WritesetRowsSaid : Prop := writesetRowsRow.holds Try.pinned (OpenSpec.ofChange writesetRowsSpec)

/-- ITS FALSE NEIGHBOUR: 'it returns false'. Refute it at one input. -/
def writesetRowsWrong : ChangeSpec := { name := "writesetRows", fn := fun _ => fun
  | [d1, d2, d3] => { results := [.lit (.bool false)], args := [d1, d2, d3] }
  | _ => none }
def WritesetRowsWrongFalsely : Prop := writesetRowsRow.holds Try.pinned (OpenSpec.ofChange writesetRowsWrong)

/- THE SECOND FORM. 'bulk': how many values and letters a reading holds, each counted each time it is reached (what is shared counts as often as it is met; a slice's spare places count too). A statement '..UptoSaid' is the law's where the arguments, and the package variables that the reading takes, are together of bulk at most 1048576: NARROWER than '..Said'. Prove '..Said' where nothing that the law and all that it calls make is longer than what came in: it says more and counts as full. Else prove '..UptoSaid'. A law counts once. -/
mutual
def uptoBulk {H : Type} : DataW H → Nat
  | .lit (.string bytes) => bytes.length + 1
  | .lit _ => 1
  | .nil => 1
  | .ptr d => uptoBulk d + 1
  | .slice elems spare => uptoBulkAll elems + uptoBulkAll spare + 1
  | .agg parts => uptoBulkAll parts + 1
  | .iface _ d => uptoBulk d + 1
  | .map entries => uptoBulkEntries entries + 1
  | .held _ => 1
def uptoBulkAll {H : Type} : List (DataW H) → Nat
  | [] => 0
  | d :: r => uptoBulk d + uptoBulkAll r
def uptoBulkEntries {H : Type} : List (Lit × DataW H) → Nat
  | [] => 0
  | x :: r => uptoBulkEntry x + uptoBulkEntries r
def uptoBulkEntry {H : Type} : Lit × DataW H → Nat
  | (.string bytes, d) => bytes.length + uptoBulk d + 1
  | (_, d) => uptoBulk d + 1
 end
def uptoSmall : (H : Type) → List (DataW H) → Bool := fun _ ds => decide (uptoBulkAll ds ≤ 1048576)
def OpenSpec.upto (s : _root_.Go.ChangeSpec) : _root_.Go.OpenSpec := { _root_.Go.OpenSpec.ofChange s with cond := some uptoSmall }

/-- 'veillaw10.Writesets', WHERE WHAT IT READS IS OF BULK AT MOST 1048576: true; the input reads as it did. -/
def writesetsUptoRow : OpenClaim := { program := "ytjnolmpalfjacaa", sum := "c8477f5e79d1c7d5c05424649ea58c5200535aba53c976ea87befbd52e8d6b10", func := "veil/veillaw10.Writesets", spec := "writesets", unfollowed := true, recurses := true, apart := false, narrowed := true }
def WritesetsUptoSaid : Prop := writesetsUptoRow.holds Try.pinned (OpenSpec.upto writesetsSpec)

/-- 'veillaw10.WritesetLast', WHERE WHAT IT READS IS OF BULK AT MOST 1048576: true; the input reads as it did. -/
def writesetLastUptoRow : OpenClaim := { program := "ytjnolmpalfjacaa", sum := "c8477f5e79d1c7d5c05424649ea58c5200535aba53c976ea87befbd52e8d6b10", func := "veil/veillaw10.WritesetLast", spec := "writesetLast", unfollowed := true, recurses := true, apart := false, narrowed := true }
def WritesetLastUptoSaid : Prop := writesetLastUptoRow.holds Try.pinned (OpenSpec.upto writesetLastSpec)

/-- 'veillaw10.WritesetForms', WHERE WHAT IT READS IS OF BULK AT MOST 1048576: true; the input reads as it did. -/
def writesetFormsUptoRow : OpenClaim := { program := "ytjnolmpalfjacaa", sum := "c8477f5e79d1c7d5c05424649ea58c5200535aba53c976ea87befbd52e8d6b10", func := "veil/veillaw10.WritesetForms", spec := "writesetForms", unfollowed := true, recurses := true, apart := false, narrowed := true }
def WritesetFormsUptoSaid : Prop := writesetFormsUptoRow.holds Try.pinned (OpenSpec.upto writesetFormsSpec)

/-- 'veillaw10.WritesetLevels', WHERE WHAT IT READS IS OF BULK AT MOST 1048576: true; the input reads as it did. -/
def writesetLevelsUptoRow : OpenClaim := { program := "ytjnolmpalfjacaa", sum := "c8477f5e79d1c7d5c05424649ea58c5200535aba53c976ea87befbd52e8d6b10", func := "veil/veillaw10.WritesetLevels", spec := "writesetLevels", unfollowed := true, recurses := true, apart := false, narrowed := true }
def WritesetLevelsUptoSaid : Prop := writesetLevelsUptoRow.holds Try.pinned (OpenSpec.upto writesetLevelsSpec)

/-- 'veillaw10.WritesetRows', WHERE WHAT IT READS IS OF BULK AT MOST 1048576: true; the input reads as it did. -/
def writesetRowsUptoRow : OpenClaim := { program := "ytjnolmpalfjacaa", sum := "c8477f5e79d1c7d5c05424649ea58c5200535aba53c976ea87befbd52e8d6b10", func := "veil/veillaw10.WritesetRows", spec := "writesetRows", unfollowed := true, recurses := true, apart := false, narrowed := true }
def WritesetRowsUptoSaid : Prop := writesetRowsUptoRow.holds Try.pinned (OpenSpec.upto writesetRowsSpec)

end Rows
end Go.Proofs.Ytjnolmpalfjacaa
