/-
  What package readset's functions hand back: statements, to be proved of the landed code.
-/
import Derived.Test.YtleemagdidffpaaGoodRef2
import Derived.Test.YtleemagdidffpaaWithRef
namespace Go.Proofs.Ytleemagdidffpaa
open Go.RowKit

def MayRC : Prop := ∀ (a : Option Addr) (n c : Nat) (z : Nat → Int) (w : World), n ≤ 1152921504606846976 → n ≤ c → (Row w a (n * 3) fun i => .int .i64 (z i)) → Calls Try.prog 19 #[.slice a n c] w fun e w' => e = .returned (.bool (readsMay n z)) ∧ Below w.heap.size w w'
def WithRC : Prop := ∀ (a : Option Addr) (n c : Nat) (z : Nat → Int) (l i v : Int) (w : World), n ≤ 1152921504606846976 → n ≤ c → (a = none → n = 0 ∧ c = 0) → (Row w a (n * 3) fun i => .int .i64 (z i)) → Calls Try.prog 11 #[.slice a n c, wordA l i v] w (WithPost n z l i v w)
def GoodRC : Prop := ∀ (s : Nat → Sl) (y : Nat → Nat → Int) (a : Option Addr) (n c : Nat) (z : Nat → Int) (d : Int) (w : World), Fit s → Arn w s y → n ≤ 1152921504606846976 → n ≤ c → (Row w a (n * 3) fun i => .int .i64 (z i)) → Calls Try.prog 13 #[arenaA s, .slice a n c, .int .i64 d] w fun e w' => e = .returned (.tuple #[.bool (goodV s y n z d), .int .i64 (goodE s y n z d)]) ∧ Below w.heap.size w w'
def ChgRC : Prop := ∀ (s : Nat → Sl) (y : Nat → Nat → Int) (a : Option Addr) (n c : Nat) (z : Nat → Int) (w : World), Fit s → Arn w s y → n ≤ 1152921504606846976 → n ≤ c → (Row w a (n * 3) fun i => .int .i64 (z i)) → Calls Try.prog 15 #[arenaA s, .slice a n c] w fun e w' => e = .returned (.tuple #[.bool (chgV s y n z), .int .i64 (chgE s y n z)]) ∧ Below w.heap.size w w'

end Go.Proofs.Ytleemagdidffpaa
