/-
  One statement of ProgForms: Get of a text of seventeen, whichever order its operations come in.
-/
import Derived.Test.YtkomapgmhipkaaaProgStat
import Derived.Test.YtkomapgmhipkaaaRegionOf
import Derived.Deep.RegionWith
import Derived.Deep.DrawnRows
import Derived.Deep.RegionHeld3
import Derived.Laws.MakeOwn
namespace Go.Proofs.Ytkomapgmhipkaaa
open Go.RowKit
set_option linter.unusedVariables false
set_option linter.unusedSimpArgs false
attribute [local go_sem ↓] Go.wp_at_zero Go.wp_at_succ

/-- The bytes of a block, told. -/
theorem conv_bytes (W : World) (b n : Nat) (l : List UInt8) (hn : l.length = n) (h : Blk W b (l.map fun x => .int .u8 (x.toNat : Int))) : Sem.run Try.prog (convert 44 9 (.slice (some ⟨b, 0, none⟩) n n)) W.drew = .ok (.string ⟨l.toArray⟩) W.drew := by
  subst hn
  refine run_convert_bytes_back (P := Try.prog) W.drew 44 9 5 ⟨b, 0, none⟩ l.length l (by kernel_rfl) (by kernel_rfl) (by kernel_rfl) fun j hj => ?_
  rw [Go.WideShapes.add_plain, Nat.zero_add]
  exact h.drew.cell j _ (by simp [hj])

set_option maxRecDepth 1000000 in
set_option maxHeartbeats 4000000 in
theorem progs_reg9 (W : World) (zs : List UInt8) (T : ByteArray) (hl : zs.length = 68)
    (ta : (⟨#[17]⟩ : ByteArray) ++ ⟨zs.toArray⟩ = T) (sb : ¬ 9223372036854775807 < 1 + zs.length)
    (mk : ∀ W : World, Sem.run Try.prog (Instr.makeSlice 44 (.int .i64 68) (.int .i64 68)) W = .ok (.slice (some ⟨W.heap.size, 0, none⟩) 68 68) (W.alloc (.cells (zs.map fun x => Value.int .u8 (x.toNat : Int)).toArray 5)))
    (HC : Hid (∀ w : World, Calls Try.prog 11 #[.string T] w fun e w' => e = .returned (.tuple #[.slice none 0 0, .int .i64 800]) ∧ Below w.heap.size w w'))
    (k0 k1 k2 k3 k4 k5 k6 k7 k8 k9 k10 k11 k12 k13 k14 k15 k16 k17 k18 k19 k20 k21 k22 k23 k24 k25 k26 k27 k28 k29 k30 k31 k32 k33 k34 k35 k36 k37 k38 k39 k40 k41 k42 k43 k44 k45 k46 k47 k48 k49 k50 k51 k52 k53 k54 k55 k56 k57 k58 k59 k60 k61 k62 k63 k64 k65 k66 k67 k68 k69 k70 k71 k72 k73 k74 k75 k76 k77 k78 k79 k80 k81 k82 k83 k84 k85 k86 k87 k88 : Value) (K : Act → World → Prop) (Q' : Exit → Act → World → Prop)
    (hK : ∀ (u13 u58 u59 u60 u61 u62 u63 u64 u65 u66 : Value) (wx : World), Below W.heap.size W wx → K ⟨#[k0, k1, k2, k3, k4, k5, k6, k7, k8, k9, k10, k11, k12, u13, .int .i64 800, k15, k16, k17, k18, k19, k20, k21, k22, k23, k24, k25, k26, k27, k28, k29, k30, k31, k32, k33, k34, k35, k36, k37, k38, k39, k40, k41, k42, k43, k44, k45, k46, k47, k48, k49, k50, k51, k52, k53, k54, k55, k56, k57, u58, u59, u60, u61, u62, u63, u64, u65, u66, k67, k68, k69, k70, k71, k72, k73, k74, k75, k76, k77, k78, k79, k80, k81, k82, k83, k84, k85, k86, k87, k88], []⟩ wx) :
    Code.wp Try.prog ((Try.f5.body.bind (regionOf 9)).getD .skip) (Exit.then K Q') ⟨#[k0, k1, k2, k3, k4, k5, k6, k7, k8, k9, k10, k11, k12, k13, k14, k15, k16, k17, k18, k19, k20, k21, k22, k23, k24, k25, k26, k27, k28, k29, k30, k31, k32, k33, k34, k35, k36, k37, k38, k39, k40, k41, k42, k43, k44, k45, k46, k47, k48, k49, k50, k51, k52, k53, k54, k55, k56, k57, k58, k59, k60, k61, k62, k63, k64, k65, k66, k67, k68, k69, k70, k71, k72, k73, k74, k75, k76, k77, k78, k79, k80, k81, k82, k83, k84, k85, k86, k87, k88], []⟩ W := by
  have e1 := conv_bytes (W.alloc (.cells #[.int .u8 17] 5)) W.heap.size 1 [17] rfl (blk_new W [.int .u8 17] 5)
  have e2 := conv_bytes ((W.alloc (.cells #[.int .u8 17] 5)).alloc (.cells (zs.map fun x => Value.int .u8 (x.toNat : Int)).toArray 5)) W.heap.size 1 [17] rfl ((blk_new W [.int .u8 17] 5).alloc _)
  have e3 := conv_bytes ((W.alloc (.cells (zs.map fun x => Value.int .u8 (x.toNat : Int)).toArray 5)).alloc (.cells #[.int .u8 17] 5)) (W.heap.size + 1) 1 [17] rfl (by have := blk_new (W.alloc (.cells (zs.map fun x => Value.int .u8 (x.toNat : Int)).toArray 5)) [.int .u8 17] 5; rw [World.size_alloc] at this; exact this)
  have e4 := conv_bytes (W.alloc (.cells (zs.map fun x => Value.int .u8 (x.toNat : Int)).toArray 5)) W.heap.size 68 zs hl (blk_new W _ 5)
  have e5 := conv_bytes ((W.alloc (.cells (zs.map fun x => Value.int .u8 (x.toNat : Int)).toArray 5)).alloc (.cells #[.int .u8 17] 5)) W.heap.size 68 zs hl ((blk_new W _ 5).alloc _)
  have e6 := conv_bytes ((W.alloc (.cells #[.int .u8 17] 5)).alloc (.cells (zs.map fun x => Value.int .u8 (x.toNat : Int)).toArray 5)) (W.heap.size + 1) 68 zs hl (by have := blk_new (W.alloc (.cells #[.int .u8 17] 5)) (zs.map fun x => Value.int .u8 (x.toNat : Int)) 5; rw [World.size_alloc] at this; exact this)
  rw [show ([17] : List UInt8).toArray = #[17] from rfl] at e1 e2 e3
  generalize (zs.map fun x => Value.int .u8 (x.toNat : Int)).toArray = Z at *
  conv => arg 2; whnf
  refine wp_region_noPanic ?_
  go_region_with ((go_at_call 11; refine (HC.out _).mono ?_; rintro e w4 ⟨rfl, hb⟩; obtain ⟨hc, hf⟩ := bcell hb; have hz := hb.size; simp only [World.size_alloc, World.size_drew] at hz))
  all_goals
    simp only [NoPanic, Exit.then, Act.put, List.setIfInBounds_toArray, List.set_cons_zero, List.set_cons_succ]
    refine hK _ _ _ _ _ _ _ _ _ _ _ ?_
    repeat (first | with_reducible exact Below.refl _ _ | with_reducible refine Below.on ?_ hb | with_reducible refine Below.alloc ?_ (by first | omega | (simp only [World.size_alloc, World.size_setCell, World.size_drew]; omega)) _ | with_reducible refine Below.drew ?_ | with_reducible refine Below.setCell ?_ (by first | (simp; done) | (simp; omega)) _)

end Go.Proofs.Ytkomapgmhipkaaa
