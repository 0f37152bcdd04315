/-
  No cell of these rows narrows 'for every input' (looked for: loops, veiled, ifaces, maps, wideKeys, modest, calm, conditions, laid).
  DERIVED. THE GIVEN ROWS OF THIS SEAT. 5 by the template 'for every input the law returns true; each argument reads behind the call as it read before'; 0 by the template 'total and deterministic' (their statements: YtmjclmjnkmhciaaTotals.lean).
  GIVEN WITH THE SEED: the statements are not yours to turn. If you find one false, say at which input.
  Laid BY PROGRAM, IN A SANDBOX (cutbox-rows.mjs): the forced cells as the released guide's own fill.sh prints them over the translation 23734a1376ab81ce… (all of the seat's roots in one cut). By AI agents, Wed Nov 11 2026. No macro, syntax, notation, axiom, sorry.
-/
import Derived.Test.YtmjclmjnkmhciaaChecked
import GoSem.Claim
import GoSem.ClaimJoined
import GoSem.ClaimMapViews
import Derived.JoinedTies
import Derived.KernelRfl
namespace Go.Proofs.Ytmjclmjnkmhciaa
/- THE CELL 'sum', in the pinned program and in every row, IS THE sha256 OF THE DUMP (.gsa) THAT YtmjclmjnkmhciaaProg.lean LOADS. Nothing in Lean hashes anything: it is a label: what it is worth is what the hold of that sum in a sandbox is worth. -/
noncomputable def Try.pinned : Pinned := { name := "ytmjclmjnkmhciaa", sum := "23734a1376ab81ce1525ed8e7fc0bc7d0af235f617c2cbb4aa180bef99fef026", checked := Try.checked }
namespace Rows
def none {H : Type} : Left H := { results := [], args := [] }

/-- 'veillaw4.Arenas': WHATEVER THE INPUT: true; the input reads as it did. -/
def arenasSpec : ChangeSpec := { name := "arenas", fn := fun _ => fun
  | [d1, d2, d3, d4, d5] => { results := [.lit (.bool true)], args := [d1, d2, d3, d4, d5] }
  | _ => none }
def arenasRow : OpenClaim := { program := "ytmjclmjnkmhciaa", sum := "23734a1376ab81ce1525ed8e7fc0bc7d0af235f617c2cbb4aa180bef99fef026", func := "veil/veillaw4.Arenas", spec := "arenas", unfollowed := true, recurses := true, apart := false }
def ArenasSaid : Prop := arenasRow.holds Try.pinned (OpenSpec.ofChange arenasSpec)

/-- ITS FALSE NEIGHBOUR: 'it returns false'. Refute it at one input. -/
def arenasWrong : ChangeSpec := { name := "arenas", fn := fun _ => fun
  | [d1, d2, d3, d4, d5] => { results := [.lit (.bool false)], args := [d1, d2, d3, d4, d5] }
  | _ => none }
def ArenasWrongFalsely : Prop := arenasRow.holds Try.pinned (OpenSpec.ofChange arenasWrong)

/-- 'veillaw4.ArenaOne': WHATEVER THE INPUT: true; the input reads as it did. -/
def arenaOneSpec : ChangeSpec := { name := "arenaOne", fn := fun _ => fun
  | [d1, d2, d3, d4, d5, d6] => { results := [.lit (.bool true)], args := [d1, d2, d3, d4, d5, d6] }
  | _ => none }
def arenaOneRow : OpenClaim := { program := "ytmjclmjnkmhciaa", sum := "23734a1376ab81ce1525ed8e7fc0bc7d0af235f617c2cbb4aa180bef99fef026", func := "veil/veillaw4.ArenaOne", spec := "arenaOne", unfollowed := true, recurses := true, apart := false }
def ArenaOneSaid : Prop := arenaOneRow.holds Try.pinned (OpenSpec.ofChange arenaOneSpec)

/-- ITS FALSE NEIGHBOUR: 'it returns false'. Refute it at one input. -/
def arenaOneWrong : ChangeSpec := { name := "arenaOne", fn := fun _ => fun
  | [d1, d2, d3, d4, d5, d6] => { results := [.lit (.bool false)], args := [d1, d2, d3, d4, d5, d6] }
  | _ => none }
def ArenaOneWrongFalsely : Prop := arenaOneRow.holds Try.pinned (OpenSpec.ofChange arenaOneWrong)

/-- 'veillaw4.ArenaForms': WHATEVER THE INPUT: true; the input reads as it did. -/
def arenaFormsSpec : ChangeSpec := { name := "arenaForms", fn := fun _ => fun
  | [d1, d2] => { results := [.lit (.bool true)], args := [d1, d2] }
  | _ => none }
def arenaFormsRow : OpenClaim := { program := "ytmjclmjnkmhciaa", sum := "23734a1376ab81ce1525ed8e7fc0bc7d0af235f617c2cbb4aa180bef99fef026", func := "veil/veillaw4.ArenaForms", spec := "arenaForms", unfollowed := true, recurses := true, apart := false }
def ArenaFormsSaid : Prop := arenaFormsRow.holds Try.pinned (OpenSpec.ofChange arenaFormsSpec)

/-- ITS FALSE NEIGHBOUR: 'it returns false'. Refute it at one input. -/
def arenaFormsWrong : ChangeSpec := { name := "arenaForms", fn := fun _ => fun
  | [d1, d2] => { results := [.lit (.bool false)], args := [d1, d2] }
  | _ => none }
def ArenaFormsWrongFalsely : Prop := arenaFormsRow.holds Try.pinned (OpenSpec.ofChange arenaFormsWrong)

/-- 'veillaw4.ArenaNew': WHATEVER THE INPUT: true; the input reads as it did. -/
def arenaNewSpec : ChangeSpec := { name := "arenaNew", fn := fun _ => fun
  | [d] => { results := [.lit (.bool true)], args := [d] }
  | _ => none }
def arenaNewRow : OpenClaim := { program := "ytmjclmjnkmhciaa", sum := "23734a1376ab81ce1525ed8e7fc0bc7d0af235f617c2cbb4aa180bef99fef026", func := "veil/veillaw4.ArenaNew", spec := "arenaNew", unfollowed := true, recurses := true, apart := false }
def ArenaNewSaid : Prop := arenaNewRow.holds Try.pinned (OpenSpec.ofChange arenaNewSpec)

/-- ITS FALSE NEIGHBOUR: 'it returns false'. Refute it at one input. -/
def arenaNewWrong : ChangeSpec := { name := "arenaNew", fn := fun _ => fun
  | [d] => { results := [.lit (.bool false)], args := [d] }
  | _ => none }
def ArenaNewWrongFalsely : Prop := arenaNewRow.holds Try.pinned (OpenSpec.ofChange arenaNewWrong)

/-- 'veillaw4.ArenaRow': WHATEVER THE INPUT: true; the input reads as it did. -/
def arenaRowSpec : ChangeSpec := { name := "arenaRow", fn := fun _ => fun
  | [d] => { results := [.lit (.bool true)], args := [d] }
  | _ => none }
def arenaRowRow : OpenClaim := { program := "ytmjclmjnkmhciaa", sum := "23734a1376ab81ce1525ed8e7fc0bc7d0af235f617c2cbb4aa180bef99fef026", func := "veil/veillaw4.ArenaRow", spec := "arenaRow", unfollowed := true, recurses := true, apart := false }
def ArenaRowSaid : Prop := arenaRowRow.holds Try.pinned (OpenSpec.ofChange arenaRowSpec)

/-- ITS FALSE NEIGHBOUR: 'it returns false'. Refute it at one input. -/
def arenaRowWrong : ChangeSpec := { name := "arenaRow", fn := fun _ => fun
  | [d] => { results := [.lit (.bool false)], args := [d] }
  | _ => none }
def ArenaRowWrongFalsely : Prop := arenaRowRow.holds Try.pinned (OpenSpec.ofChange arenaRowWrong)

/- THE SECOND FORM. 'bulk': how many values and letters a reading holds, each counted each time it is reached (what is shared counts as often as it is met; a slice's spare places count too). A statement '..UptoSaid' is the law's where the arguments, and the package variables that the reading takes, are together of bulk at most 1048576: NARROWER than '..Said'. Prove '..Said' where nothing that the law and all that it calls make is longer than what came in: it says more and counts as full. Else prove '..UptoSaid'. A law counts once. -/
mutual
def uptoBulk {H : Type} : DataW H → Nat
  | .lit (.string bytes) => bytes.length + 1
  | .lit _ => 1
  | .nil => 1
  | .ptr d => uptoBulk d + 1
  | .slice elems spare => uptoBulkAll elems + uptoBulkAll spare + 1
  | .agg parts => uptoBulkAll parts + 1
  | .iface _ d => uptoBulk d + 1
  | .map entries => uptoBulkEntries entries + 1
  | .held _ => 1
def uptoBulkAll {H : Type} : List (DataW H) → Nat
  | [] => 0
  | d :: r => uptoBulk d + uptoBulkAll r
def uptoBulkEntries {H : Type} : List (Lit × DataW H) → Nat
  | [] => 0
  | x :: r => uptoBulkEntry x + uptoBulkEntries r
def uptoBulkEntry {H : Type} : Lit × DataW H → Nat
  | (.string bytes, d) => bytes.length + uptoBulk d + 1
  | (_, d) => uptoBulk d + 1
 end
def uptoSmall : (H : Type) → List (DataW H) → Bool := fun _ ds => decide (uptoBulkAll ds ≤ 1048576)
def OpenSpec.upto (s : _root_.Go.ChangeSpec) : _root_.Go.OpenSpec := { _root_.Go.OpenSpec.ofChange s with cond := some uptoSmall }

/-- 'veillaw4.Arenas', WHERE WHAT IT READS IS OF BULK AT MOST 1048576: true; the input reads as it did. -/
def arenasUptoRow : OpenClaim := { program := "ytmjclmjnkmhciaa", sum := "23734a1376ab81ce1525ed8e7fc0bc7d0af235f617c2cbb4aa180bef99fef026", func := "veil/veillaw4.Arenas", spec := "arenas", unfollowed := true, recurses := true, apart := false, narrowed := true }
def ArenasUptoSaid : Prop := arenasUptoRow.holds Try.pinned (OpenSpec.upto arenasSpec)

/-- 'veillaw4.ArenaOne', WHERE WHAT IT READS IS OF BULK AT MOST 1048576: true; the input reads as it did. -/
def arenaOneUptoRow : OpenClaim := { program := "ytmjclmjnkmhciaa", sum := "23734a1376ab81ce1525ed8e7fc0bc7d0af235f617c2cbb4aa180bef99fef026", func := "veil/veillaw4.ArenaOne", spec := "arenaOne", unfollowed := true, recurses := true, apart := false, narrowed := true }
def ArenaOneUptoSaid : Prop := arenaOneUptoRow.holds Try.pinned (OpenSpec.upto arenaOneSpec)

/-- 'veillaw4.ArenaForms', WHERE WHAT IT READS IS OF BULK AT MOST 1048576: true; the input reads as it did. -/
def arenaFormsUptoRow : OpenClaim := { program := "ytmjclmjnkmhciaa", sum := "23734a1376ab81ce1525ed8e7fc0bc7d0af235f617c2cbb4aa180bef99fef026", func := "veil/veillaw4.ArenaForms", spec := "arenaForms", unfollowed := true, recurses := true, apart := false, narrowed := true }
def ArenaFormsUptoSaid : Prop := arenaFormsUptoRow.holds Try.pinned (OpenSpec.upto arenaFormsSpec)

/-- 'veillaw4.ArenaNew', WHERE WHAT IT READS IS OF BULK AT MOST 1048576: true; the input reads as it did. -/
def arenaNewUptoRow : OpenClaim := { program := "ytmjclmjnkmhciaa", sum := "23734a1376ab81ce1525ed8e7fc0bc7d0af235f617c2cbb4aa180bef99fef026", func := "veil/veillaw4.ArenaNew", spec := "arenaNew", unfollowed := true, recurses := true, apart := false, narrowed := true }
def ArenaNewUptoSaid : Prop := arenaNewUptoRow.holds Try.pinned (OpenSpec.upto arenaNewSpec)

/-- 'veillaw4.ArenaRow', WHERE WHAT IT READS IS OF BULK AT MOST 1048576: true; the input reads as it did. -/
def arenaRowUptoRow : OpenClaim := { program := "ytmjclmjnkmhciaa", sum := "23734a1376ab81ce1525ed8e7fc0bc7d0af235f617c2cbb4aa180bef99fef026", func := "veil/veillaw4.ArenaRow", spec := "arenaRow", unfollowed := true, recurses := true, apart := false, narrowed := true }
def ArenaRowUptoSaid : Prop := arenaRowUptoRow.holds Try.pinned (OpenSpec.upto arenaRowSpec)

end Rows
end Go.Proofs.Ytmjclmjnkmhciaa
