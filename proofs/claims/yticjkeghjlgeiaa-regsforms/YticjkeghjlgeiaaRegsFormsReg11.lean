/-
  One statement of RegsForms: Set of a number that may not be, whichever order its operations come in.
-/
import Derived.Test.YticjkeghjlgeiaaRegsStat
import Derived.Test.YticjkeghjlgeiaaRegionOf
import Derived.Deep.RegionWith
import Derived.Deep.DrawnRows
import Derived.Deep.RegionHeld3
namespace Go.Proofs.Yticjkeghjlgeiaa
open Go.RowKit
set_option linter.unusedVariables false
set_option linter.unusedSimpArgs false
attribute [local go_sem ↓] Go.wp_at_zero Go.wp_at_succ

set_option maxRecDepth 1000000 in
set_option maxHeartbeats 4000000 in
theorem regs_reg11 (a0 r x : Int) (p b6 : Nat) (W : World) (hp : bits .and .i64 (a0 / 4) 1 = p) (hp2 : (p : Int) < 2) (hp0 : (0 : Int) ≤ p) (n1 : [Value.int .i64 (-(1 + r)), Value.int .i64 (255 + (1 + r))][p]? = some (.int .i64 x)) (v0 : IntKind.i64.wrap (-(1 + r)) = -(1 + r)) (v1 : IntKind.i64.wrap (255 + (1 + r)) = 255 + (1 + r))
    (HC : Hid (∀ w : World, Calls Try.prog 7 #[.agg #[.int .i64 1, .int .i64 2, .int .i64 3, .int .i64 4], .int .i64 0, .int .i64 x] w fun e w' => e = .returned (.tuple #[.agg #[.int .i64 0, .int .i64 0, .int .i64 0, .int .i64 0], .int .i64 600]) ∧ Below w.heap.size w w'))
    (B6 : Blk W b6 [.int .i64 1, .int .i64 2, .int .i64 3, .int .i64 4])
    (k1 k2 k3 k4 k7 k8 k9 k10 k11 k12 k13 k14 k15 k16 k17 k18 k19 k20 k21 k22 k23 k24 k25 k26 k27 k28 k29 k30 k31 k32 k33 k34 k35 k36 k37 k38 k39 k40 k41 k42 k43 k44 k45 k46 k47 k48 k49 k50 k51 k52 k53 k54 k55 k56 k57 k58 k59 k60 k61 k62 k63 k64 k65 k66 k67 k68 k69 k70 k71 k72 k73 k74 k75 k76 k77 k78 k79 k80 k81 k82 k83 k84 k85 k86 k87 k88 k89 k90 k91 k92 k93 k94 k95 k96 k97 k98 k99 k100 k101 k102 k103 k104 k105 k106 k107 k108 k109 k110 k111 k112 k113 k114 k115 k116 k117 k118 k119 k120 k121 : Value) (K : Act → World → Prop) (Q' : Exit → Act → World → Prop)
    (hK : ∀ (u15 u67 u68 u69 u70 u71 u72 u73 u74 u75 u76 u77 u78 u79 u80 u81 : Value) (wx : World), Below W.heap.size W wx → K ⟨#[.int .i64 a0, k1, k2, k3, k4, .int .i64 (1 + r), .pointer (some ⟨b6, 0, none⟩), k7, k8, k9, k10, k11, k12, k13, k14, u15, .int .i64 600, k17, k18, k19, k20, k21, k22, k23, k24, k25, k26, k27, k28, k29, k30, k31, k32, k33, k34, k35, k36, k37, k38, k39, k40, k41, k42, k43, k44, k45, k46, k47, k48, k49, k50, k51, k52, k53, k54, k55, k56, k57, k58, k59, k60, k61, k62, k63, k64, k65, k66, u67, u68, u69, u70, u71, u72, u73, u74, u75, u76, u77, u78, u79, u80, u81, k82, k83, k84, k85, k86, k87, k88, k89, k90, k91, k92, k93, k94, k95, k96, k97, k98, k99, k100, k101, k102, k103, k104, k105, k106, k107, k108, k109, k110, k111, k112, k113, k114, k115, k116, k117, k118, k119, k120, k121], []⟩ wx) :
    Code.wp Try.prog ((Try.f4.body.bind (regionOf 11)).getD .skip) (Exit.then K Q') ⟨#[.int .i64 a0, k1, k2, k3, k4, .int .i64 (1 + r), .pointer (some ⟨b6, 0, none⟩), k7, k8, k9, k10, k11, k12, k13, k14, k15, k16, k17, k18, k19, k20, k21, k22, k23, k24, k25, k26, k27, k28, k29, k30, k31, k32, k33, k34, k35, k36, k37, k38, k39, k40, k41, k42, k43, k44, k45, k46, k47, k48, k49, k50, k51, k52, k53, k54, k55, k56, k57, k58, k59, k60, k61, k62, k63, k64, k65, k66, k67, k68, k69, k70, k71, k72, k73, k74, k75, k76, k77, k78, k79, k80, k81, k82, k83, k84, k85, k86, k87, k88, k89, k90, k91, k92, k93, k94, k95, k96, k97, k98, k99, k100, k101, k102, k103, k104, k105, k106, k107, k108, k109, k110, k111, k112, k113, k114, k115, k116, k117, k118, k119, k120, k121], []⟩ W := by
  conv => arg 2; whnf
  refine wp_region_noPanic ?_
  obtain ⟨c0, c1, c2, c3⟩ := B6.cells4
  have z6 := B6.lt
  go_region_with ((go_at_call 7; refine (HC.out _).mono ?_; rintro e w4 ⟨rfl, hb⟩; obtain ⟨hc, hf⟩ := bcell hb; have hz := hb.size; simp only [World.size_alloc, World.size_drew] at hz))
  all_goals
    simp only [NoPanic, Exit.then, Act.put, List.setIfInBounds_toArray, List.set_cons_zero, List.set_cons_succ]
    refine hK _ _ _ _ _ _ _ _ _ _ _ _ _ _ _ _ _ ?_
    repeat (first | with_reducible exact Below.refl _ _ | with_reducible refine Below.on ?_ hb | with_reducible refine Below.alloc ?_ (by first | omega | (simp only [World.size_alloc, World.size_setCell, World.size_drew]; omega)) _ | with_reducible refine Below.drew ?_ | with_reducible refine Below.setCell ?_ (by first | (simp; done) | (simp; omega)) _)

end Go.Proofs.Yticjkeghjlgeiaa
