/-
  No cell of these rows narrows 'for every input' (looked for: loops, veiled, ifaces, maps, wideKeys, modest, calm, conditions, laid).
  DERIVED. THE GIVEN ROWS OF THIS SEAT. 4 by the template 'for every input the law returns true; each argument reads behind the call as it read before'; 0 by the template 'total and deterministic' (their statements: YtjbdpelapehoiaaTotals.lean).
  GIVEN WITH THE SEED: the statements are not yours to turn. If you find one false, say at which input.
  Laid BY PROGRAM, IN A SANDBOX (cutbox-rows.mjs): the forced cells as the released guide's own fill.sh prints them over the translation 82239d70e70cfc27… (all of the seat's roots in one cut). By AI agents, Wed Nov 11 2026. No macro, syntax, notation, axiom, sorry.
-/
import Derived.Test.YtjbdpelapehoiaaChecked
import GoSem.Claim
import GoSem.ClaimJoined
import GoSem.ClaimMapViews
import Derived.JoinedTies
import Derived.KernelRfl
namespace Go.Proofs.Ytjbdpelapehoiaa
/- THE CELL 'sum', in the pinned program and in every row, IS THE sha256 OF THE DUMP (.gsa) THAT YtjbdpelapehoiaaProg.lean LOADS. Nothing in Lean hashes anything: it is a label: what it is worth is what the hold of that sum in a sandbox is worth. -/
noncomputable def Try.pinned : Pinned := { name := "ytjbdpelapehoiaa", sum := "82239d70e70cfc27d504ab5ef5069af5eb616be0e06b55cd4ff089d6848b11c1", checked := Try.checked }
namespace Rows
def none {H : Type} : Left H := { results := [], args := [] }

/-- 'veillaw5.Clocks': WHATEVER THE INPUT: true; the input reads as it did. -/
def clocksSpec : ChangeSpec := { name := "clocks", fn := fun _ => fun
  | [d1, d2, d3] => { results := [.lit (.bool true)], args := [d1, d2, d3] }
  | _ => none }
def clocksRow : OpenClaim := { program := "ytjbdpelapehoiaa", sum := "82239d70e70cfc27d504ab5ef5069af5eb616be0e06b55cd4ff089d6848b11c1", func := "veil/veillaw5.Clocks", spec := "clocks", unfollowed := true, recurses := true, apart := false }
def ClocksSaid : Prop := clocksRow.holds Try.pinned (OpenSpec.ofChange clocksSpec)

/-- ITS FALSE NEIGHBOUR: 'it returns false'. Refute it at one input. -/
def clocksWrong : ChangeSpec := { name := "clocks", fn := fun _ => fun
  | [d1, d2, d3] => { results := [.lit (.bool false)], args := [d1, d2, d3] }
  | _ => none }
def ClocksWrongFalsely : Prop := clocksRow.holds Try.pinned (OpenSpec.ofChange clocksWrong)

/-- 'veillaw5.ClockApart': WHATEVER THE INPUT: true; the input reads as it did. -/
def clockApartSpec : ChangeSpec := { name := "clockApart", fn := fun _ => fun
  | [d1, d2] => { results := [.lit (.bool true)], args := [d1, d2] }
  | _ => none }
def clockApartRow : OpenClaim := { program := "ytjbdpelapehoiaa", sum := "82239d70e70cfc27d504ab5ef5069af5eb616be0e06b55cd4ff089d6848b11c1", func := "veil/veillaw5.ClockApart", spec := "clockApart", unfollowed := true, recurses := true, apart := false }
def ClockApartSaid : Prop := clockApartRow.holds Try.pinned (OpenSpec.ofChange clockApartSpec)

/-- ITS FALSE NEIGHBOUR: 'it returns false'. Refute it at one input. -/
def clockApartWrong : ChangeSpec := { name := "clockApart", fn := fun _ => fun
  | [d1, d2] => { results := [.lit (.bool false)], args := [d1, d2] }
  | _ => none }
def ClockApartWrongFalsely : Prop := clockApartRow.holds Try.pinned (OpenSpec.ofChange clockApartWrong)

/-- 'veillaw5.ClockForms': WHATEVER THE INPUT: true; the input reads as it did. -/
def clockFormsSpec : ChangeSpec := { name := "clockForms", fn := fun _ => fun
  | [d1, d2] => { results := [.lit (.bool true)], args := [d1, d2] }
  | _ => none }
def clockFormsRow : OpenClaim := { program := "ytjbdpelapehoiaa", sum := "82239d70e70cfc27d504ab5ef5069af5eb616be0e06b55cd4ff089d6848b11c1", func := "veil/veillaw5.ClockForms", spec := "clockForms", unfollowed := true, recurses := true, apart := false }
def ClockFormsSaid : Prop := clockFormsRow.holds Try.pinned (OpenSpec.ofChange clockFormsSpec)

/-- ITS FALSE NEIGHBOUR: 'it returns false'. Refute it at one input. -/
def clockFormsWrong : ChangeSpec := { name := "clockForms", fn := fun _ => fun
  | [d1, d2] => { results := [.lit (.bool false)], args := [d1, d2] }
  | _ => none }
def ClockFormsWrongFalsely : Prop := clockFormsRow.holds Try.pinned (OpenSpec.ofChange clockFormsWrong)

/-- 'veillaw5.ClockRow': WHATEVER THE INPUT: true; the input reads as it did. -/
def clockRowSpec : ChangeSpec := { name := "clockRow", fn := fun _ => fun
  | [d1, d2] => { results := [.lit (.bool true)], args := [d1, d2] }
  | _ => none }
def clockRowRow : OpenClaim := { program := "ytjbdpelapehoiaa", sum := "82239d70e70cfc27d504ab5ef5069af5eb616be0e06b55cd4ff089d6848b11c1", func := "veil/veillaw5.ClockRow", spec := "clockRow", unfollowed := true, recurses := true, apart := false }
def ClockRowSaid : Prop := clockRowRow.holds Try.pinned (OpenSpec.ofChange clockRowSpec)

/-- ITS FALSE NEIGHBOUR: 'it returns false'. Refute it at one input. -/
def clockRowWrong : ChangeSpec := { name := "clockRow", fn := fun _ => fun
  | [d1, d2] => { results := [.lit (.bool false)], args := [d1, d2] }
  | _ => none }
def ClockRowWrongFalsely : Prop := clockRowRow.holds Try.pinned (OpenSpec.ofChange clockRowWrong)

/- THE SECOND FORM. 'bulk': how many values and letters a reading holds, each counted each time it is reached (what is shared counts as often as it is met; a slice's spare places count too). A statement '..UptoSaid' is the law's where the arguments, and the package variables that the reading takes, are together of bulk at most 1048576: NARROWER than '..Said'. Prove '..Said' where nothing that the law and all that it calls make is longer than what came in: it says more and counts as full. Else prove '..UptoSaid'. A law counts once. -/
mutual
def uptoBulk {H : Type} : DataW H → Nat
  | .lit (.string bytes) => bytes.length + 1
  | .lit _ => 1
  | .nil => 1
  | .ptr d => uptoBulk d + 1
  | .slice elems spare => uptoBulkAll elems + uptoBulkAll spare + 1
  | .agg parts => uptoBulkAll parts + 1
  | .iface _ d => uptoBulk d + 1
  | .map entries => uptoBulkEntries entries + 1
  | .held _ => 1
def uptoBulkAll {H : Type} : List (DataW H) → Nat
  | [] => 0
  | d :: r => uptoBulk d + uptoBulkAll r
def uptoBulkEntries {H : Type} : List (Lit × DataW H) → Nat
  | [] => 0
  | x :: r => uptoBulkEntry x + uptoBulkEntries r
def uptoBulkEntry {H : Type} : Lit × DataW H → Nat
  | (.string bytes, d) => bytes.length + uptoBulk d + 1
  | (_, d) => uptoBulk d + 1
 end
def uptoSmall : (H : Type) → List (DataW H) → Bool := fun _ ds => decide (uptoBulkAll ds ≤ 1048576)
def OpenSpec.upto (s : _root_.Go.ChangeSpec) : _root_.Go.OpenSpec := { _root_.Go.OpenSpec.ofChange s with cond := some uptoSmall }

/-- 'veillaw5.Clocks', WHERE WHAT IT READS IS OF BULK AT MOST 1048576: true; the input reads as it did. -/
def clocksUptoRow : OpenClaim := { program := "ytjbdpelapehoiaa", sum := "82239d70e70cfc27d504ab5ef5069af5eb616be0e06b55cd4ff089d6848b11c1", func := "veil/veillaw5.Clocks", spec := "clocks", unfollowed := true, recurses := true, apart := false, narrowed := true }
def ClocksUptoSaid : Prop := clocksUptoRow.holds Try.pinned (OpenSpec.upto clocksSpec)

/-- 'veillaw5.ClockApart', WHERE WHAT IT READS IS OF BULK AT MOST 1048576: true; the input reads as it did. -/
def clockApartUptoRow : OpenClaim := { program := "ytjbdpelapehoiaa", sum := "82239d70e70cfc27d504ab5ef5069af5eb616be0e06b55cd4ff089d6848b11c1", func := "veil/veillaw5.ClockApart", spec := "clockApart", unfollowed := true, recurses := true, apart := false, narrowed := true }
def ClockApartUptoSaid : Prop := clockApartUptoRow.holds Try.pinned (OpenSpec.upto clockApartSpec)

/-- 'veillaw5.ClockForms', WHERE WHAT IT READS IS OF BULK AT MOST 1048576: true; the input reads as it did. -/
def clockFormsUptoRow : OpenClaim := { program := "ytjbdpelapehoiaa", sum := "82239d70e70cfc27d504ab5ef5069af5eb616be0e06b55cd4ff089d6848b11c1", func := "veil/veillaw5.ClockForms", spec := "clockForms", unfollowed := true, recurses := true, apart := false, narrowed := true }
def ClockFormsUptoSaid : Prop := clockFormsUptoRow.holds Try.pinned (OpenSpec.upto clockFormsSpec)

/-- 'veillaw5.ClockRow', WHERE WHAT IT READS IS OF BULK AT MOST 1048576: true; the input reads as it did. -/
def clockRowUptoRow : OpenClaim := { program := "ytjbdpelapehoiaa", sum := "82239d70e70cfc27d504ab5ef5069af5eb616be0e06b55cd4ff089d6848b11c1", func := "veil/veillaw5.ClockRow", spec := "clockRow", unfollowed := true, recurses := true, apart := false, narrowed := true }
def ClockRowUptoSaid : Prop := clockRowUptoRow.holds Try.pinned (OpenSpec.upto clockRowSpec)

end Rows
end Go.Proofs.Ytjbdpelapehoiaa
