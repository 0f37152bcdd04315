/-
  No cell of these rows narrows 'for every input' (looked for: loops, veiled, ifaces, maps, wideKeys, modest, calm, conditions, laid).
  DERIVED. THE GIVEN ROWS OF THIS SEAT. 11 by the template 'for every input the law returns true; each argument reads behind the call as it read before'; 0 by the template 'total and deterministic' (their statements: YtaaenolbfhhnfaaGreatTotals.lean).
  GIVEN WITH THE SEED: the statements are not yours to turn. If you find one false, say at which input.
  Laid BY PROGRAM, IN A SANDBOX (cutbox-rows.mjs): the forced cells as the released guide's own fill.sh prints them over the translation f7715e3e335689fe… (all of the seat's roots in one cut). By AI agents, Wed Nov 11 2026. No macro, syntax, notation, axiom, sorry.
-/
import Derived.Test.YtaaenolbfhhnfaaGreatChecked
import GoSem.Claim
import GoSem.ClaimJoined
import GoSem.ClaimMapViews
import Derived.JoinedTies
import Derived.KernelRfl
namespace Go.Proofs.YtaaenolbfhhnfaaGreat
/- THE CELL 'sum', in the pinned program and in every row, IS THE sha256 OF THE DUMP (.gsa) THAT YtaaenolbfhhnfaaGreatProg.lean LOADS. Nothing in Lean hashes anything: it is a label: what it is worth is what the hold of that sum in a sandbox is worth. -/
noncomputable def Tryz.pinned : Pinned := { name := "ytaaenolbfhhnfaagreat", sum := "f7715e3e335689feb049c8904b6436516da0bd0a70930e1acf667adafcd1eb54", checked := Tryz.checked }
namespace Rows
def none {H : Type} : Left H := { results := [], args := [] }

/-- 'veillaw12.Machs': WHATEVER THE INPUT: true; the input reads as it did. -/
def machsSpec : ChangeSpec := { name := "machs", fn := fun _ => fun
  | [d1, d2, d3, d4, d5] => { results := [.lit (.bool true)], args := [d1, d2, d3, d4, d5] }
  | _ => none }
def machsRow : OpenClaim := { program := "ytaaenolbfhhnfaagreat", sum := "f7715e3e335689feb049c8904b6436516da0bd0a70930e1acf667adafcd1eb54", func := "veil/veillaw12.Machs", spec := "machs", unfollowed := true, recurses := true, apart := false }
def MachsSaid : Prop := machsRow.holds Tryz.pinned (OpenSpec.ofChange machsSpec)

/-- ITS FALSE NEIGHBOUR: 'it returns false'. Refute it at one input. -/
def machsWrong : ChangeSpec := { name := "machs", fn := fun _ => fun
  | [d1, d2, d3, d4, d5] => { results := [.lit (.bool false)], args := [d1, d2, d3, d4, d5] }
  | _ => none }
def MachsWrongFalsely : Prop := machsRow.holds Tryz.pinned (OpenSpec.ofChange machsWrong)

/-- 'veillaw12.MachForms': WHATEVER THE INPUT: true; the input reads as it did. -/
def machFormsSpec : ChangeSpec := { name := "machForms", fn := fun _ => fun
  | [d1, d2] => { results := [.lit (.bool true)], args := [d1, d2] }
  | _ => none }
def machFormsRow : OpenClaim := { program := "ytaaenolbfhhnfaagreat", sum := "f7715e3e335689feb049c8904b6436516da0bd0a70930e1acf667adafcd1eb54", func := "veil/veillaw12.MachForms", spec := "machForms", unfollowed := true, recurses := true, apart := false }
def MachFormsSaid : Prop := machFormsRow.holds Tryz.pinned (OpenSpec.ofChange machFormsSpec)

/-- ITS FALSE NEIGHBOUR: 'it returns false'. Refute it at one input. -/
def machFormsWrong : ChangeSpec := { name := "machForms", fn := fun _ => fun
  | [d1, d2] => { results := [.lit (.bool false)], args := [d1, d2] }
  | _ => none }
def MachFormsWrongFalsely : Prop := machFormsRow.holds Tryz.pinned (OpenSpec.ofChange machFormsWrong)

/-- 'veillaw12.MachNews': WHATEVER THE INPUT: true; the input reads as it did. -/
def machNewsSpec : ChangeSpec := { name := "machNews", fn := fun _ => fun
  | [d1, d2] => { results := [.lit (.bool true)], args := [d1, d2] }
  | _ => none }
def machNewsRow : OpenClaim := { program := "ytaaenolbfhhnfaagreat", sum := "f7715e3e335689feb049c8904b6436516da0bd0a70930e1acf667adafcd1eb54", func := "veil/veillaw12.MachNews", spec := "machNews", unfollowed := true, recurses := true, apart := false }
def MachNewsSaid : Prop := machNewsRow.holds Tryz.pinned (OpenSpec.ofChange machNewsSpec)

/-- ITS FALSE NEIGHBOUR: 'it returns false'. Refute it at one input. -/
def machNewsWrong : ChangeSpec := { name := "machNews", fn := fun _ => fun
  | [d1, d2] => { results := [.lit (.bool false)], args := [d1, d2] }
  | _ => none }
def MachNewsWrongFalsely : Prop := machNewsRow.holds Tryz.pinned (OpenSpec.ofChange machNewsWrong)

/-- 'veillaw12.MachSessions': WHATEVER THE INPUT: true; the input reads as it did. -/
def machSessionsSpec : ChangeSpec := { name := "machSessions", fn := fun _ => fun
  | [d1, d2] => { results := [.lit (.bool true)], args := [d1, d2] }
  | _ => none }
def machSessionsRow : OpenClaim := { program := "ytaaenolbfhhnfaagreat", sum := "f7715e3e335689feb049c8904b6436516da0bd0a70930e1acf667adafcd1eb54", func := "veil/veillaw12.MachSessions", spec := "machSessions", unfollowed := true, recurses := true, apart := false }
def MachSessionsSaid : Prop := machSessionsRow.holds Tryz.pinned (OpenSpec.ofChange machSessionsSpec)

/-- ITS FALSE NEIGHBOUR: 'it returns false'. Refute it at one input. -/
def machSessionsWrong : ChangeSpec := { name := "machSessions", fn := fun _ => fun
  | [d1, d2] => { results := [.lit (.bool false)], args := [d1, d2] }
  | _ => none }
def MachSessionsWrongFalsely : Prop := machSessionsRow.holds Tryz.pinned (OpenSpec.ofChange machSessionsWrong)

/-- 'veillaw14.DriftOnce': WHATEVER THE INPUT: true; the input reads as it did. -/
def driftOnceSpec : ChangeSpec := { name := "driftOnce", fn := fun _ => fun
  | [d] => { results := [.lit (.bool true)], args := [d] }
  | _ => none }
def driftOnceRow : OpenClaim := { program := "ytaaenolbfhhnfaagreat", sum := "f7715e3e335689feb049c8904b6436516da0bd0a70930e1acf667adafcd1eb54", func := "veil/veillaw14.DriftOnce", spec := "driftOnce", unfollowed := true, recurses := true, apart := false }
def DriftOnceSaid : Prop := driftOnceRow.holds Tryz.pinned (OpenSpec.ofChange driftOnceSpec)

/-- ITS FALSE NEIGHBOUR: 'it returns false'. Refute it at one input. -/
def driftOnceWrong : ChangeSpec := { name := "driftOnce", fn := fun _ => fun
  | [d] => { results := [.lit (.bool false)], args := [d] }
  | _ => none }
def DriftOnceWrongFalsely : Prop := driftOnceRow.holds Tryz.pinned (OpenSpec.ofChange driftOnceWrong)

/-- 'veillaw15.Fetches': WHATEVER THE INPUT: true; the input reads as it did. -/
def fetchesSpec : ChangeSpec := { name := "fetches", fn := fun _ => fun
  | [d1, d2] => { results := [.lit (.bool true)], args := [d1, d2] }
  | _ => none }
def fetchesRow : OpenClaim := { program := "ytaaenolbfhhnfaagreat", sum := "f7715e3e335689feb049c8904b6436516da0bd0a70930e1acf667adafcd1eb54", func := "veil/veillaw15.Fetches", spec := "fetches", unfollowed := true, recurses := true, apart := false }
def FetchesSaid : Prop := fetchesRow.holds Tryz.pinned (OpenSpec.ofChange fetchesSpec)

/-- ITS FALSE NEIGHBOUR: 'it returns false'. Refute it at one input. -/
def fetchesWrong : ChangeSpec := { name := "fetches", fn := fun _ => fun
  | [d1, d2] => { results := [.lit (.bool false)], args := [d1, d2] }
  | _ => none }
def FetchesWrongFalsely : Prop := fetchesRow.holds Tryz.pinned (OpenSpec.ofChange fetchesWrong)

/-- 'veillaw15.FetchOne': WHATEVER THE INPUT: true; the input reads as it did. -/
def fetchOneSpec : ChangeSpec := { name := "fetchOne", fn := fun _ => fun
  | [d1, d2] => { results := [.lit (.bool true)], args := [d1, d2] }
  | _ => none }
def fetchOneRow : OpenClaim := { program := "ytaaenolbfhhnfaagreat", sum := "f7715e3e335689feb049c8904b6436516da0bd0a70930e1acf667adafcd1eb54", func := "veil/veillaw15.FetchOne", spec := "fetchOne", unfollowed := true, recurses := true, apart := false }
def FetchOneSaid : Prop := fetchOneRow.holds Tryz.pinned (OpenSpec.ofChange fetchOneSpec)

/-- ITS FALSE NEIGHBOUR: 'it returns false'. Refute it at one input. -/
def fetchOneWrong : ChangeSpec := { name := "fetchOne", fn := fun _ => fun
  | [d1, d2] => { results := [.lit (.bool false)], args := [d1, d2] }
  | _ => none }
def FetchOneWrongFalsely : Prop := fetchOneRow.holds Tryz.pinned (OpenSpec.ofChange fetchOneWrong)

/-- 'veillaw15.FetchOwn': WHATEVER THE INPUT: true; the input reads as it did. -/
def fetchOwnSpec : ChangeSpec := { name := "fetchOwn", fn := fun _ => fun
  | [d1, d2] => { results := [.lit (.bool true)], args := [d1, d2] }
  | _ => none }
def fetchOwnRow : OpenClaim := { program := "ytaaenolbfhhnfaagreat", sum := "f7715e3e335689feb049c8904b6436516da0bd0a70930e1acf667adafcd1eb54", func := "veil/veillaw15.FetchOwn", spec := "fetchOwn", unfollowed := true, recurses := true, apart := false }
def FetchOwnSaid : Prop := fetchOwnRow.holds Tryz.pinned (OpenSpec.ofChange fetchOwnSpec)

/-- ITS FALSE NEIGHBOUR: 'it returns false'. Refute it at one input. -/
def fetchOwnWrong : ChangeSpec := { name := "fetchOwn", fn := fun _ => fun
  | [d1, d2] => { results := [.lit (.bool false)], args := [d1, d2] }
  | _ => none }
def FetchOwnWrongFalsely : Prop := fetchOwnRow.holds Tryz.pinned (OpenSpec.ofChange fetchOwnWrong)

/-- 'veillaw15.FetchStale': WHATEVER THE INPUT: true; the input reads as it did. -/
def fetchStaleSpec : ChangeSpec := { name := "fetchStale", fn := fun _ => fun
  | [d1, d2] => { results := [.lit (.bool true)], args := [d1, d2] }
  | _ => none }
def fetchStaleRow : OpenClaim := { program := "ytaaenolbfhhnfaagreat", sum := "f7715e3e335689feb049c8904b6436516da0bd0a70930e1acf667adafcd1eb54", func := "veil/veillaw15.FetchStale", spec := "fetchStale", unfollowed := true, recurses := true, apart := false }
def FetchStaleSaid : Prop := fetchStaleRow.holds Tryz.pinned (OpenSpec.ofChange fetchStaleSpec)

/-- ITS FALSE NEIGHBOUR: 'it returns false'. Refute it at one input. -/
def fetchStaleWrong : ChangeSpec := { name := "fetchStale", fn := fun _ => fun
  | [d1, d2] => { results := [.lit (.bool false)], args := [d1, d2] }
  | _ => none }
def FetchStaleWrongFalsely : Prop := fetchStaleRow.holds Tryz.pinned (OpenSpec.ofChange fetchStaleWrong)

/-- 'veillaw15.FetchForms': WHATEVER THE INPUT: true; the input reads as it did. -/
def fetchFormsSpec : ChangeSpec := { name := "fetchForms", fn := fun _ => fun
  | [d1, d2] => { results := [.lit (.bool true)], args := [d1, d2] }
  | _ => none }
def fetchFormsRow : OpenClaim := { program := "ytaaenolbfhhnfaagreat", sum := "f7715e3e335689feb049c8904b6436516da0bd0a70930e1acf667adafcd1eb54", func := "veil/veillaw15.FetchForms", spec := "fetchForms", unfollowed := true, recurses := true, apart := false }
def FetchFormsSaid : Prop := fetchFormsRow.holds Tryz.pinned (OpenSpec.ofChange fetchFormsSpec)

/-- ITS FALSE NEIGHBOUR: 'it returns false'. Refute it at one input. -/
def fetchFormsWrong : ChangeSpec := { name := "fetchForms", fn := fun _ => fun
  | [d1, d2] => { results := [.lit (.bool false)], args := [d1, d2] }
  | _ => none }
def FetchFormsWrongFalsely : Prop := fetchFormsRow.holds Tryz.pinned (OpenSpec.ofChange fetchFormsWrong)

/-- 'veillaw15.FetchTwice': WHATEVER THE INPUT: true; the input reads as it did. -/
def fetchTwiceSpec : ChangeSpec := { name := "fetchTwice", fn := fun _ => fun
  | [d] => { results := [.lit (.bool true)], args := [d] }
  | _ => none }
def fetchTwiceRow : OpenClaim := { program := "ytaaenolbfhhnfaagreat", sum := "f7715e3e335689feb049c8904b6436516da0bd0a70930e1acf667adafcd1eb54", func := "veil/veillaw15.FetchTwice", spec := "fetchTwice", unfollowed := true, recurses := true, apart := false }
def FetchTwiceSaid : Prop := fetchTwiceRow.holds Tryz.pinned (OpenSpec.ofChange fetchTwiceSpec)

/-- ITS FALSE NEIGHBOUR: 'it returns false'. Refute it at one input. -/
def fetchTwiceWrong : ChangeSpec := { name := "fetchTwice", fn := fun _ => fun
  | [d] => { results := [.lit (.bool false)], args := [d] }
  | _ => none }
def FetchTwiceWrongFalsely : Prop := fetchTwiceRow.holds Tryz.pinned (OpenSpec.ofChange fetchTwiceWrong)

/- THE SECOND FORM. 'bulk': how many values and letters a reading holds, each counted each time it is reached (what is shared counts as often as it is met; a slice's spare places count too). A statement '..UptoSaid' is the law's where the arguments, and the package variables that the reading takes, are together of bulk at most 1048576: NARROWER than '..Said'. Prove '..Said' where nothing that the law and all that it calls make is longer than what came in: it says more and counts as full. Else prove '..UptoSaid'. A law counts once. -/
mutual
def uptoBulk {H : Type} : DataW H → Nat
  | .lit (.string bytes) => bytes.length + 1
  | .lit _ => 1
  | .nil => 1
  | .ptr d => uptoBulk d + 1
  | .slice elems spare => uptoBulkAll elems + uptoBulkAll spare + 1
  | .agg parts => uptoBulkAll parts + 1
  | .iface _ d => uptoBulk d + 1
  | .map entries => uptoBulkEntries entries + 1
  | .held _ => 1
def uptoBulkAll {H : Type} : List (DataW H) → Nat
  | [] => 0
  | d :: r => uptoBulk d + uptoBulkAll r
def uptoBulkEntries {H : Type} : List (Lit × DataW H) → Nat
  | [] => 0
  | x :: r => uptoBulkEntry x + uptoBulkEntries r
def uptoBulkEntry {H : Type} : Lit × DataW H → Nat
  | (.string bytes, d) => bytes.length + uptoBulk d + 1
  | (_, d) => uptoBulk d + 1
 end
def uptoSmall : (H : Type) → List (DataW H) → Bool := fun _ ds => decide (uptoBulkAll ds ≤ 1048576)
def OpenSpec.upto (s : _root_.Go.ChangeSpec) : _root_.Go.OpenSpec := { _root_.Go.OpenSpec.ofChange s with cond := some uptoSmall }

/-- 'veillaw12.Machs', WHERE WHAT IT READS IS OF BULK AT MOST 1048576: true; the input reads as it did. -/
def machsUptoRow : OpenClaim := { program := "ytaaenolbfhhnfaagreat", sum := "f7715e3e335689feb049c8904b6436516da0bd0a70930e1acf667adafcd1eb54", func := "veil/veillaw12.Machs", spec := "machs", unfollowed := true, recurses := true, apart := false, narrowed := true }
def MachsUptoSaid : Prop := machsUptoRow.holds Tryz.pinned (OpenSpec.upto machsSpec)

/-- 'veillaw12.MachForms', WHERE WHAT IT READS IS OF BULK AT MOST 1048576: true; the input reads as it did. -/
def machFormsUptoRow : OpenClaim := { program := "ytaaenolbfhhnfaagreat", sum := "f7715e3e335689feb049c8904b6436516da0bd0a70930e1acf667adafcd1eb54", func := "veil/veillaw12.MachForms", spec := "machForms", unfollowed := true, recurses := true, apart := false, narrowed := true }
def MachFormsUptoSaid : Prop := machFormsUptoRow.holds Tryz.pinned (OpenSpec.upto machFormsSpec)

/-- 'veillaw12.MachNews', WHERE WHAT IT READS IS OF BULK AT MOST 1048576: true; the input reads as it did. -/
def machNewsUptoRow : OpenClaim := { program := "ytaaenolbfhhnfaagreat", sum := "f7715e3e335689feb049c8904b6436516da0bd0a70930e1acf667adafcd1eb54", func := "veil/veillaw12.MachNews", spec := "machNews", unfollowed := true, recurses := true, apart := false, narrowed := true }
def MachNewsUptoSaid : Prop := machNewsUptoRow.holds Tryz.pinned (OpenSpec.upto machNewsSpec)

/-- 'veillaw12.MachSessions', WHERE WHAT IT READS IS OF BULK AT MOST 1048576: true; the input reads as it did. -/
def machSessionsUptoRow : OpenClaim := { program := "ytaaenolbfhhnfaagreat", sum := "f7715e3e335689feb049c8904b6436516da0bd0a70930e1acf667adafcd1eb54", func := "veil/veillaw12.MachSessions", spec := "machSessions", unfollowed := true, recurses := true, apart := false, narrowed := true }
def MachSessionsUptoSaid : Prop := machSessionsUptoRow.holds Tryz.pinned (OpenSpec.upto machSessionsSpec)

/-- 'veillaw14.DriftOnce', WHERE WHAT IT READS IS OF BULK AT MOST 1048576: true; the input reads as it did. -/
def driftOnceUptoRow : OpenClaim := { program := "ytaaenolbfhhnfaagreat", sum := "f7715e3e335689feb049c8904b6436516da0bd0a70930e1acf667adafcd1eb54", func := "veil/veillaw14.DriftOnce", spec := "driftOnce", unfollowed := true, recurses := true, apart := false, narrowed := true }
def DriftOnceUptoSaid : Prop := driftOnceUptoRow.holds Tryz.pinned (OpenSpec.upto driftOnceSpec)

/-- 'veillaw15.Fetches', WHERE WHAT IT READS IS OF BULK AT MOST 1048576: true; the input reads as it did. -/
def fetchesUptoRow : OpenClaim := { program := "ytaaenolbfhhnfaagreat", sum := "f7715e3e335689feb049c8904b6436516da0bd0a70930e1acf667adafcd1eb54", func := "veil/veillaw15.Fetches", spec := "fetches", unfollowed := true, recurses := true, apart := false, narrowed := true }
def FetchesUptoSaid : Prop := fetchesUptoRow.holds Tryz.pinned (OpenSpec.upto fetchesSpec)

/-- 'veillaw15.FetchOne', WHERE WHAT IT READS IS OF BULK AT MOST 1048576: true; the input reads as it did. -/
def fetchOneUptoRow : OpenClaim := { program := "ytaaenolbfhhnfaagreat", sum := "f7715e3e335689feb049c8904b6436516da0bd0a70930e1acf667adafcd1eb54", func := "veil/veillaw15.FetchOne", spec := "fetchOne", unfollowed := true, recurses := true, apart := false, narrowed := true }
def FetchOneUptoSaid : Prop := fetchOneUptoRow.holds Tryz.pinned (OpenSpec.upto fetchOneSpec)

/-- 'veillaw15.FetchOwn', WHERE WHAT IT READS IS OF BULK AT MOST 1048576: true; the input reads as it did. -/
def fetchOwnUptoRow : OpenClaim := { program := "ytaaenolbfhhnfaagreat", sum := "f7715e3e335689feb049c8904b6436516da0bd0a70930e1acf667adafcd1eb54", func := "veil/veillaw15.FetchOwn", spec := "fetchOwn", unfollowed := true, recurses := true, apart := false, narrowed := true }
def FetchOwnUptoSaid : Prop := fetchOwnUptoRow.holds Tryz.pinned (OpenSpec.upto fetchOwnSpec)

/-- 'veillaw15.FetchStale', WHERE WHAT IT READS IS OF BULK AT MOST 1048576: true; the input reads as it did. -/
def fetchStaleUptoRow : OpenClaim := { program := "ytaaenolbfhhnfaagreat", sum := "f7715e3e335689feb049c8904b6436516da0bd0a70930e1acf667adafcd1eb54", func := "veil/veillaw15.FetchStale", spec := "fetchStale", unfollowed := true, recurses := true, apart := false, narrowed := true }
def FetchStaleUptoSaid : Prop := fetchStaleUptoRow.holds Tryz.pinned (OpenSpec.upto fetchStaleSpec)

/-- 'veillaw15.FetchForms', WHERE WHAT IT READS IS OF BULK AT MOST 1048576: true; the input reads as it did. -/
def fetchFormsUptoRow : OpenClaim := { program := "ytaaenolbfhhnfaagreat", sum := "f7715e3e335689feb049c8904b6436516da0bd0a70930e1acf667adafcd1eb54", func := "veil/veillaw15.FetchForms", spec := "fetchForms", unfollowed := true, recurses := true, apart := false, narrowed := true }
def FetchFormsUptoSaid : Prop := fetchFormsUptoRow.holds Tryz.pinned (OpenSpec.upto fetchFormsSpec)

/-- 'veillaw15.FetchTwice', WHERE WHAT IT READS IS OF BULK AT MOST 1048576: true; the input reads as it did. -/
def fetchTwiceUptoRow : OpenClaim := { program := "ytaaenolbfhhnfaagreat", sum := "f7715e3e335689feb049c8904b6436516da0bd0a70930e1acf667adafcd1eb54", func := "veil/veillaw15.FetchTwice", spec := "fetchTwice", unfollowed := true, recurses := true, apart := false, narrowed := true }
def FetchTwiceUptoSaid : Prop := fetchTwiceUptoRow.holds Tryz.pinned (OpenSpec.upto fetchTwiceSpec)

end Rows
end Go.Proofs.YtaaenolbfhhnfaaGreat
