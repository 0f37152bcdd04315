/-
  No cell of these rows narrows 'for every input' (looked for: loops, veiled, ifaces, maps, wideKeys, modest, calm, conditions, laid).
  DERIVED. THE GIVEN ROWS OF THIS SEAT. 5 by the template 'for every input the law returns true; each argument reads behind the call as it read before'; 0 by the template 'total and deterministic' (their statements: YtnjognmnbpcaaaaGreatTotals.lean).
  GIVEN WITH THE SEED: the statements are not yours to turn. If you find one false, say at which input.
  Laid BY PROGRAM, IN A SANDBOX (cutbox-rows.mjs): the forced cells as the released guide's own fill.sh prints them over the translation 332f6a5538b364f0… (all of the seat's roots in one cut). By AI agents, Wed Nov 11 2026. No macro, syntax, notation, axiom, sorry.
-/
import Derived.Test.YtnjognmnbpcaaaaGreatChecked
import GoSem.Claim
import GoSem.ClaimJoined
import GoSem.ClaimMapViews
import Derived.JoinedTies
import Derived.KernelRfl
namespace Go.Proofs.YtnjognmnbpcaaaaGreat
/- THE CELL 'sum', in the pinned program and in every row, IS THE sha256 OF THE DUMP (.gsa) THAT YtnjognmnbpcaaaaGreatProg.lean LOADS. Nothing in Lean hashes anything: it is a label: what it is worth is what the hold of that sum in a sandbox is worth. -/
noncomputable def Tryz.pinned : Pinned := { name := "ytnjognmnbpcaaaagreat", sum := "332f6a5538b364f0c9d67494f4ae65a9aa14c2c12689ec474d58eb53154591ae", checked := Tryz.checked }
namespace Rows
def none {H : Type} : Left H := { results := [], args := [] }

/-- 'veillaw17.Calcs': WHATEVER THE INPUT: true; the input reads as it did. -/
def calcsSpec : ChangeSpec := { name := "calcs", fn := fun _ => fun
  | [d1, d2] => { results := [.lit (.bool true)], args := [d1, d2] }
  | _ => none }
def calcsRow : OpenClaim := { program := "ytnjognmnbpcaaaagreat", sum := "332f6a5538b364f0c9d67494f4ae65a9aa14c2c12689ec474d58eb53154591ae", func := "veil/veillaw17.Calcs", spec := "calcs", unfollowed := true, recurses := true, apart := false }
def CalcsSaid : Prop := calcsRow.holds Tryz.pinned (OpenSpec.ofChange calcsSpec)

/-- ITS FALSE NEIGHBOUR: 'it returns false'. Refute it at one input. -/
def calcsWrong : ChangeSpec := { name := "calcs", fn := fun _ => fun
  | [d1, d2] => { results := [.lit (.bool false)], args := [d1, d2] }
  | _ => none }
def CalcsWrongFalsely : Prop := calcsRow.holds Tryz.pinned (OpenSpec.ofChange calcsWrong)

/-- 'veillaw17.CalcTells': WHATEVER THE INPUT: true; the input reads as it did. -/
def calcTellsSpec : ChangeSpec := { name := "calcTells", fn := fun _ => fun
  | [d1, d2] => { results := [.lit (.bool true)], args := [d1, d2] }
  | _ => none }
def calcTellsRow : OpenClaim := { program := "ytnjognmnbpcaaaagreat", sum := "332f6a5538b364f0c9d67494f4ae65a9aa14c2c12689ec474d58eb53154591ae", func := "veil/veillaw17.CalcTells", spec := "calcTells", unfollowed := true, recurses := true, apart := false }
def CalcTellsSaid : Prop := calcTellsRow.holds Tryz.pinned (OpenSpec.ofChange calcTellsSpec)

/-- ITS FALSE NEIGHBOUR: 'it returns false'. Refute it at one input. -/
def calcTellsWrong : ChangeSpec := { name := "calcTells", fn := fun _ => fun
  | [d1, d2] => { results := [.lit (.bool false)], args := [d1, d2] }
  | _ => none }
def CalcTellsWrongFalsely : Prop := calcTellsRow.holds Tryz.pinned (OpenSpec.ofChange calcTellsWrong)

/-- 'veillaw17.CalcZero': WHATEVER THE INPUT: true; the input reads as it did. -/
def calcZeroSpec : ChangeSpec := { name := "calcZero", fn := fun _ => fun
  | [d1, d2, d3] => { results := [.lit (.bool true)], args := [d1, d2, d3] }
  | _ => none }
def calcZeroRow : OpenClaim := { program := "ytnjognmnbpcaaaagreat", sum := "332f6a5538b364f0c9d67494f4ae65a9aa14c2c12689ec474d58eb53154591ae", func := "veil/veillaw17.CalcZero", spec := "calcZero", unfollowed := true, recurses := true, apart := false }
def CalcZeroSaid : Prop := calcZeroRow.holds Tryz.pinned (OpenSpec.ofChange calcZeroSpec)

/-- ITS FALSE NEIGHBOUR: 'it returns false'. Refute it at one input. -/
def calcZeroWrong : ChangeSpec := { name := "calcZero", fn := fun _ => fun
  | [d1, d2, d3] => { results := [.lit (.bool false)], args := [d1, d2, d3] }
  | _ => none }
def CalcZeroWrongFalsely : Prop := calcZeroRow.holds Tryz.pinned (OpenSpec.ofChange calcZeroWrong)

/-- 'veillaw17.CalcForms': WHATEVER THE INPUT: true; the input reads as it did. -/
def calcFormsSpec : ChangeSpec := { name := "calcForms", fn := fun _ => fun
  | [d1, d2] => { results := [.lit (.bool true)], args := [d1, d2] }
  | _ => none }
def calcFormsRow : OpenClaim := { program := "ytnjognmnbpcaaaagreat", sum := "332f6a5538b364f0c9d67494f4ae65a9aa14c2c12689ec474d58eb53154591ae", func := "veil/veillaw17.CalcForms", spec := "calcForms", unfollowed := true, recurses := true, apart := false }
def CalcFormsSaid : Prop := calcFormsRow.holds Tryz.pinned (OpenSpec.ofChange calcFormsSpec)

/-- ITS FALSE NEIGHBOUR: 'it returns false'. Refute it at one input. -/
def calcFormsWrong : ChangeSpec := { name := "calcForms", fn := fun _ => fun
  | [d1, d2] => { results := [.lit (.bool false)], args := [d1, d2] }
  | _ => none }
def CalcFormsWrongFalsely : Prop := calcFormsRow.holds Tryz.pinned (OpenSpec.ofChange calcFormsWrong)

/-- 'veillaw17.CalcRow': WHATEVER THE INPUT: true; the input reads as it did. -/
def calcRowSpec : ChangeSpec := { name := "calcRow", fn := fun _ => fun
  | [d] => { results := [.lit (.bool true)], args := [d] }
  | _ => none }
def calcRowRow : OpenClaim := { program := "ytnjognmnbpcaaaagreat", sum := "332f6a5538b364f0c9d67494f4ae65a9aa14c2c12689ec474d58eb53154591ae", func := "veil/veillaw17.CalcRow", spec := "calcRow", unfollowed := true, recurses := true, apart := false }
def CalcRowSaid : Prop := calcRowRow.holds Tryz.pinned (OpenSpec.ofChange calcRowSpec)

/-- ITS FALSE NEIGHBOUR: 'it returns false'. Refute it at one input. -/
def calcRowWrong : ChangeSpec := { name := "calcRow", fn := fun _ => fun
  | [d] => { results := [.lit (.bool false)], args := [d] }
  | _ => none }
def CalcRowWrongFalsely : Prop := calcRowRow.holds Tryz.pinned (OpenSpec.ofChange calcRowWrong)

/- THE SECOND FORM. 'bulk': how many values and letters a reading holds, each counted each time it is reached (what is shared counts as often as it is met; a slice's spare places count too). A statement '..UptoSaid' is the law's where the arguments, and the package variables that the reading takes, are together of bulk at most 1048576: NARROWER than '..Said'. Prove '..Said' where nothing that the law and all that it calls make is longer than what came in: it says more and counts as full. Else prove '..UptoSaid'. A law counts once. -/
mutual
def uptoBulk {H : Type} : DataW H → Nat
  | .lit (.string bytes) => bytes.length + 1
  | .lit _ => 1
  | .nil => 1
  | .ptr d => uptoBulk d + 1
  | .slice elems spare => uptoBulkAll elems + uptoBulkAll spare + 1
  | .agg parts => uptoBulkAll parts + 1
  | .iface _ d => uptoBulk d + 1
  | .map entries => uptoBulkEntries entries + 1
  | .held _ => 1
def uptoBulkAll {H : Type} : List (DataW H) → Nat
  | [] => 0
  | d :: r => uptoBulk d + uptoBulkAll r
def uptoBulkEntries {H : Type} : List (Lit × DataW H) → Nat
  | [] => 0
  | x :: r => uptoBulkEntry x + uptoBulkEntries r
def uptoBulkEntry {H : Type} : Lit × DataW H → Nat
  | (.string bytes, d) => bytes.length + uptoBulk d + 1
  | (_, d) => uptoBulk d + 1
 end
def uptoSmall : (H : Type) → List (DataW H) → Bool := fun _ ds => decide (uptoBulkAll ds ≤ 1048576)
def OpenSpec.upto (s : _root_.Go.ChangeSpec) : _root_.Go.OpenSpec := { _root_.Go.OpenSpec.ofChange s with cond := some uptoSmall }

/-- 'veillaw17.Calcs', WHERE WHAT IT READS IS OF BULK AT MOST 1048576: true; the input reads as it did. -/
def calcsUptoRow : OpenClaim := { program := "ytnjognmnbpcaaaagreat", sum := "332f6a5538b364f0c9d67494f4ae65a9aa14c2c12689ec474d58eb53154591ae", func := "veil/veillaw17.Calcs", spec := "calcs", unfollowed := true, recurses := true, apart := false, narrowed := true }
def CalcsUptoSaid : Prop := calcsUptoRow.holds Tryz.pinned (OpenSpec.upto calcsSpec)

/-- 'veillaw17.CalcTells', WHERE WHAT IT READS IS OF BULK AT MOST 1048576: true; the input reads as it did. -/
def calcTellsUptoRow : OpenClaim := { program := "ytnjognmnbpcaaaagreat", sum := "332f6a5538b364f0c9d67494f4ae65a9aa14c2c12689ec474d58eb53154591ae", func := "veil/veillaw17.CalcTells", spec := "calcTells", unfollowed := true, recurses := true, apart := false, narrowed := true }
def CalcTellsUptoSaid : Prop := calcTellsUptoRow.holds Tryz.pinned (OpenSpec.upto calcTellsSpec)

/-- 'veillaw17.CalcZero', WHERE WHAT IT READS IS OF BULK AT MOST 1048576: true; the input reads as it did. -/
def calcZeroUptoRow : OpenClaim := { program := "ytnjognmnbpcaaaagreat", sum := "332f6a5538b364f0c9d67494f4ae65a9aa14c2c12689ec474d58eb53154591ae", func := "veil/veillaw17.CalcZero", spec := "calcZero", unfollowed := true, recurses := true, apart := false, narrowed := true }
def CalcZeroUptoSaid : Prop := calcZeroUptoRow.holds Tryz.pinned (OpenSpec.upto calcZeroSpec)

/-- 'veillaw17.CalcForms', WHERE WHAT IT READS IS OF BULK AT MOST 1048576: true; the input reads as it did. -/
def calcFormsUptoRow : OpenClaim := { program := "ytnjognmnbpcaaaagreat", sum := "332f6a5538b364f0c9d67494f4ae65a9aa14c2c12689ec474d58eb53154591ae", func := "veil/veillaw17.CalcForms", spec := "calcForms", unfollowed := true, recurses := true, apart := false, narrowed := true }
def CalcFormsUptoSaid : Prop := calcFormsUptoRow.holds Tryz.pinned (OpenSpec.upto calcFormsSpec)

/-- 'veillaw17.CalcRow', WHERE WHAT IT READS IS OF BULK AT MOST 1048576: true; the input reads as it did. -/
def calcRowUptoRow : OpenClaim := { program := "ytnjognmnbpcaaaagreat", sum := "332f6a5538b364f0c9d67494f4ae65a9aa14c2c12689ec474d58eb53154591ae", func := "veil/veillaw17.CalcRow", spec := "calcRow", unfollowed := true, recurses := true, apart := false, narrowed := true }
def CalcRowUptoSaid : Prop := calcRowUptoRow.holds Tryz.pinned (OpenSpec.upto calcRowSpec)

end Rows
end Go.Proofs.YtnjognmnbpcaaaaGreat
