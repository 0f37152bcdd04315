/-
  The document's Put of a program.
-/
import Derived.Test.YtlaanhkmoficbaaProgRef
namespace Go.Proofs.Ytlaanhkmoficbaa
open Go.RowKit
set_option linter.unusedSimpArgs false

theorem text_append (l m : List UInt8) : (⟨l.toArray⟩ : ByteArray) ++ (⟨m.toArray⟩ : ByteArray) = ⟨(l ++ m).toArray⟩ := by
  apply ByteArray.ext
  rw [ByteArray.data_append]
  simp


end Go.Proofs.Ytlaanhkmoficbaa
