/-
  No cell of these rows narrows 'for every input' (looked for: loops, veiled, ifaces, maps, wideKeys, modest, calm, conditions, laid).
  DERIVED. THE GIVEN ROWS OF THIS SEAT. 4 by the template 'for every input the law returns true; each argument reads behind the call as it read before'; 0 by the template 'total and deterministic' (their statements: YticjkeghjlgeiaaTotals.lean).
  GIVEN WITH THE SEED: the statements are not yours to turn. If you find one false, say at which input.
  Laid BY PROGRAM, IN A SANDBOX (cutbox-rows.mjs): the forced cells as the released guide's own fill.sh prints them over the translation d497489f425b61d1… (all of the seat's roots in one cut). By AI agents, Wed Nov 11 2026. No macro, syntax, notation, axiom, sorry.
-/
import Derived.Test.YticjkeghjlgeiaaChecked
import GoSem.Claim
import GoSem.ClaimJoined
import GoSem.ClaimMapViews
import Derived.JoinedTies
import Derived.KernelRfl
namespace Go.Proofs.Yticjkeghjlgeiaa
/- THE CELL 'sum', in the pinned program and in every row, IS THE sha256 OF THE DUMP (.gsa) THAT YticjkeghjlgeiaaProg.lean LOADS. Nothing in Lean hashes anything: it is a label: what it is worth is what the hold of that sum in a sandbox is worth. -/
noncomputable def Try.pinned : Pinned := { name := "yticjkeghjlgeiaa", sum := "d497489f425b61d137966a6cbfb2624dfad994379b598719d9881103fa81188b", checked := Try.checked }
namespace Rows
def none {H : Type} : Left H := { results := [], args := [] }

/-- 'veillaw6.Regs': WHATEVER THE INPUT: true; the input reads as it did. -/
def regsSpec : ChangeSpec := { name := "regs", fn := fun _ => fun
  | [d1, d2, d3] => { results := [.lit (.bool true)], args := [d1, d2, d3] }
  | _ => none }
def regsRow : OpenClaim := { program := "yticjkeghjlgeiaa", sum := "d497489f425b61d137966a6cbfb2624dfad994379b598719d9881103fa81188b", func := "veil/veillaw6.Regs", spec := "regs", unfollowed := true, recurses := true, apart := false }
def RegsSaid : Prop := regsRow.holds Try.pinned (OpenSpec.ofChange regsSpec)

/-- ITS FALSE NEIGHBOUR: 'it returns false'. Refute it at one input. -/
def regsWrong : ChangeSpec := { name := "regs", fn := fun _ => fun
  | [d1, d2, d3] => { results := [.lit (.bool false)], args := [d1, d2, d3] }
  | _ => none }
def RegsWrongFalsely : Prop := regsRow.holds Try.pinned (OpenSpec.ofChange regsWrong)

/-- 'veillaw6.RegsForms': WHATEVER THE INPUT: true; the input reads as it did. -/
def regsFormsSpec : ChangeSpec := { name := "regsForms", fn := fun _ => fun
  | [d1, d2] => { results := [.lit (.bool true)], args := [d1, d2] }
  | _ => none }
def regsFormsRow : OpenClaim := { program := "yticjkeghjlgeiaa", sum := "d497489f425b61d137966a6cbfb2624dfad994379b598719d9881103fa81188b", func := "veil/veillaw6.RegsForms", spec := "regsForms", unfollowed := true, recurses := true, apart := false }
def RegsFormsSaid : Prop := regsFormsRow.holds Try.pinned (OpenSpec.ofChange regsFormsSpec)

/-- ITS FALSE NEIGHBOUR: 'it returns false'. Refute it at one input. -/
def regsFormsWrong : ChangeSpec := { name := "regsForms", fn := fun _ => fun
  | [d1, d2] => { results := [.lit (.bool false)], args := [d1, d2] }
  | _ => none }
def RegsFormsWrongFalsely : Prop := regsFormsRow.holds Try.pinned (OpenSpec.ofChange regsFormsWrong)

/-- 'veillaw6.RegsSums': WHATEVER THE INPUT: true; the input reads as it did. -/
def regsSumsSpec : ChangeSpec := { name := "regsSums", fn := fun _ => fun
  | [d] => { results := [.lit (.bool true)], args := [d] }
  | _ => none }
def regsSumsRow : OpenClaim := { program := "yticjkeghjlgeiaa", sum := "d497489f425b61d137966a6cbfb2624dfad994379b598719d9881103fa81188b", func := "veil/veillaw6.RegsSums", spec := "regsSums", unfollowed := true, recurses := true, apart := false }
def RegsSumsSaid : Prop := regsSumsRow.holds Try.pinned (OpenSpec.ofChange regsSumsSpec)

/-- ITS FALSE NEIGHBOUR: 'it returns false'. Refute it at one input. -/
def regsSumsWrong : ChangeSpec := { name := "regsSums", fn := fun _ => fun
  | [d] => { results := [.lit (.bool false)], args := [d] }
  | _ => none }
def RegsSumsWrongFalsely : Prop := regsSumsRow.holds Try.pinned (OpenSpec.ofChange regsSumsWrong)

/-- 'veillaw6.RegsOther': WHATEVER THE INPUT: true; the input reads as it did. -/
def regsOtherSpec : ChangeSpec := { name := "regsOther", fn := fun _ => fun
  | [d1, d2, d3, d4] => { results := [.lit (.bool true)], args := [d1, d2, d3, d4] }
  | _ => none }
def regsOtherRow : OpenClaim := { program := "yticjkeghjlgeiaa", sum := "d497489f425b61d137966a6cbfb2624dfad994379b598719d9881103fa81188b", func := "veil/veillaw6.RegsOther", spec := "regsOther", unfollowed := true, recurses := true, apart := false }
def RegsOtherSaid : Prop := regsOtherRow.holds Try.pinned (OpenSpec.ofChange regsOtherSpec)

/-- ITS FALSE NEIGHBOUR: 'it returns false'. Refute it at one input. -/
def regsOtherWrong : ChangeSpec := { name := "regsOther", fn := fun _ => fun
  | [d1, d2, d3, d4] => { results := [.lit (.bool false)], args := [d1, d2, d3, d4] }
  | _ => none }
def RegsOtherWrongFalsely : Prop := regsOtherRow.holds Try.pinned (OpenSpec.ofChange regsOtherWrong)

/- THE SECOND FORM. 'bulk': how many values and letters a reading holds, each counted each time it is reached (what is shared counts as often as it is met; a slice's spare places count too). A statement '..UptoSaid' is the law's where the arguments, and the package variables that the reading takes, are together of bulk at most 1048576: NARROWER than '..Said'. Prove '..Said' where nothing that the law and all that it calls make is longer than what came in: it says more and counts as full. Else prove '..UptoSaid'. A law counts once. -/
mutual
def uptoBulk {H : Type} : DataW H → Nat
  | .lit (.string bytes) => bytes.length + 1
  | .lit _ => 1
  | .nil => 1
  | .ptr d => uptoBulk d + 1
  | .slice elems spare => uptoBulkAll elems + uptoBulkAll spare + 1
  | .agg parts => uptoBulkAll parts + 1
  | .iface _ d => uptoBulk d + 1
  | .map entries => uptoBulkEntries entries + 1
  | .held _ => 1
def uptoBulkAll {H : Type} : List (DataW H) → Nat
  | [] => 0
  | d :: r => uptoBulk d + uptoBulkAll r
def uptoBulkEntries {H : Type} : List (Lit × DataW H) → Nat
  | [] => 0
  | x :: r => uptoBulkEntry x + uptoBulkEntries r
def uptoBulkEntry {H : Type} : Lit × DataW H → Nat
  | (.string bytes, d) => bytes.length + uptoBulk d + 1
  | (_, d) => uptoBulk d + 1
 end
def uptoSmall : (H : Type) → List (DataW H) → Bool := fun _ ds => decide (uptoBulkAll ds ≤ 1048576)
def OpenSpec.upto (s : _root_.Go.ChangeSpec) : _root_.Go.OpenSpec := { _root_.Go.OpenSpec.ofChange s with cond := some uptoSmall }

/-- 'veillaw6.Regs', WHERE WHAT IT READS IS OF BULK AT MOST 1048576: true; the input reads as it did. -/
def regsUptoRow : OpenClaim := { program := "yticjkeghjlgeiaa", sum := "d497489f425b61d137966a6cbfb2624dfad994379b598719d9881103fa81188b", func := "veil/veillaw6.Regs", spec := "regs", unfollowed := true, recurses := true, apart := false, narrowed := true }
def RegsUptoSaid : Prop := regsUptoRow.holds Try.pinned (OpenSpec.upto regsSpec)

/-- 'veillaw6.RegsForms', WHERE WHAT IT READS IS OF BULK AT MOST 1048576: true; the input reads as it did. -/
def regsFormsUptoRow : OpenClaim := { program := "yticjkeghjlgeiaa", sum := "d497489f425b61d137966a6cbfb2624dfad994379b598719d9881103fa81188b", func := "veil/veillaw6.RegsForms", spec := "regsForms", unfollowed := true, recurses := true, apart := false, narrowed := true }
def RegsFormsUptoSaid : Prop := regsFormsUptoRow.holds Try.pinned (OpenSpec.upto regsFormsSpec)

/-- 'veillaw6.RegsSums', WHERE WHAT IT READS IS OF BULK AT MOST 1048576: true; the input reads as it did. -/
def regsSumsUptoRow : OpenClaim := { program := "yticjkeghjlgeiaa", sum := "d497489f425b61d137966a6cbfb2624dfad994379b598719d9881103fa81188b", func := "veil/veillaw6.RegsSums", spec := "regsSums", unfollowed := true, recurses := true, apart := false, narrowed := true }
def RegsSumsUptoSaid : Prop := regsSumsUptoRow.holds Try.pinned (OpenSpec.upto regsSumsSpec)

/-- 'veillaw6.RegsOther', WHERE WHAT IT READS IS OF BULK AT MOST 1048576: true; the input reads as it did. -/
def regsOtherUptoRow : OpenClaim := { program := "yticjkeghjlgeiaa", sum := "d497489f425b61d137966a6cbfb2624dfad994379b598719d9881103fa81188b", func := "veil/veillaw6.RegsOther", spec := "regsOther", unfollowed := true, recurses := true, apart := false, narrowed := true }
def RegsOtherUptoSaid : Prop := regsOtherUptoRow.holds Try.pinned (OpenSpec.upto regsOtherSpec)

end Rows
end Go.Proofs.Yticjkeghjlgeiaa
