/-
  What package writeset's functions hand back: statements, to be proved of the landed code.
-/
import Derived.Test.YtjnolmpalfjacaaWithWRef2
namespace Go.Proofs.Ytjnolmpalfjacaa
open Go.RowKit

def MayWC : Prop := ∀ (a : Option Addr) (n c : Nat) (z : Nat → Int) (w : World), n ≤ 1152921504606846976 → n ≤ c → (Row w a (n * 3) fun i => .int .i64 (z i)) → Calls Try.prog 17 #[.slice a n c] w fun e w' => e = .returned (.bool (writesMay n z)) ∧ Below w.heap.size w w'
def WithWC : Prop := ∀ (a : Option Addr) (n c : Nat) (z : Nat → Int) (l i v : Int) (w : World), n ≤ 1152921504606846976 → n ≤ c → (a = none → n = 0 ∧ c = 0) → (Row w a (n * 3) fun i => .int .i64 (z i)) → Calls Try.prog 9 #[.slice a n c, wordA l i v] w (WithWPost n z l i v w)
def FindWC : Prop := ∀ (a : Option Addr) (n c : Nat) (z : Nat → Int) (l i : Int) (w : World), n ≤ 1152921504606846976 → n ≤ c → (a = none → n = 0 ∧ c = 0) → (Row w a (n * 3) fun i => .int .i64 (z i)) → Calls Try.prog 11 #[.slice a n c, .int .i64 l, .int .i64 i] w fun e w' => e = .returned (.tuple #[.int .i64 (findVal n z l i), .bool (findIs n z l i)]) ∧ Below w.heap.size w w'
def AtWC : Prop := ∀ (a : Option Addr) (n c : Nat) (z : Nat → Int) (l : Int) (w : World), n ≤ 1152921504606846976 → n ≤ c → (Row w a (n * 3) fun i => .int .i64 (z i)) → Calls Try.prog 15 #[.slice a n c, .int .i64 l] w fun e w' => e = .returned (.bool (atW n z l)) ∧ Below w.heap.size w w'

end Go.Proofs.Ytjnolmpalfjacaa
