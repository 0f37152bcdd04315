/-
  One statement of ArenaForms: Get at a level that may not be, whichever order its operations come in.
-/
import Derived.Test.YtmjclmjnkmhciaaArenaSaid
import Derived.Test.YtmjclmjnkmhciaaRegionOf
import Derived.Deep.RegionWith
import Derived.Deep.DrawnRows
import Derived.Deep.RegionHeld3
namespace Go.Proofs.Ytmjclmjnkmhciaa
open Go.RowKit
set_option linter.unusedVariables false
set_option linter.unusedSimpArgs false
attribute [local go_sem ↓] Go.wp_at_zero Go.wp_at_succ

set_option maxRecDepth 1000000 in
set_option maxHeartbeats 4000000 in
theorem forms_reg9 (hGet : GetC) (a0 r x1 : Int) (g q b10 : Nat) (t : Nat → Sl) (z : Nat → Nat → Int) (W : World) (hq : bits .and .i64 a0 1 = q) (hq2 : (q : Int) < 2) (hq0 : (0 : Int) ≤ q) (n1 : [Value.int .i64 (-(1 + r)), Value.int .i64 (3 + (1 + r))][q]? = some (.int .i64 x1)) (v0 : IntKind.i64.wrap (-(1 + r)) = -(1 + r)) (v1 : IntKind.i64.wrap (3 + (1 + r)) = 3 + (1 + r)) (HFit : Hid (Fit t)) (HG : Hid (getW t z x1 0 = wordA 0 0 0 ∧ getE t z x1 0 = 400)) (HA : Hid (Arn W t z)) (B10 : Blk W b10 (arenaL t)) (K : Act → World → Prop) (Q' : Exit → Act → World → Prop)
    (k1 k2 k3 k4 k6 k8 k9 k11 k12 k13 k14 k15 k16 k17 k18 k19 k20 k21 k22 k23 k24 k25 k26 k27 k28 k29 k30 k31 k32 k33 k34 k35 k36 k37 k38 k39 k40 k41 k42 k43 k44 k45 k46 k47 k48 k49 k50 k51 k52 k53 k54 k55 k56 k57 k58 k59 k60 k61 k62 k63 k64 k65 k66 k67 k68 k69 k70 k71 k72 k73 k74 k75 k76 k77 k78 k79 k80 k81 k82 k83 k84 k85 k86 k87 k88 k89 k90 k91 k92 k93 k94 k95 k96 k97 k98 k99 k100 k101 k102 k103 k104 k105 k106 k107 k108 k109 k110 k111 k112 k113 k114 k115 k116 k117 k118 k119 k120 k121 k122 k123 k124 k125 k126 k127 k128 k129 k130 k131 k132 k133 k134 k135 k136 k137 k138 k139 k140 k141 k142 k143 k144 k145 k146 k147 k148 k149 k150 k151 k152 k153 k154 k155 k156 k157 k158 k159 k160 k161 k162 k163 k164 k165 k166 k167 k168 : Value)
    (hK : ∀ (u12 u60 u61 u62 u63 u64 u65 u66 u67 u68 u69 u70 u71 u72 u73 : Value) (wx : World), Below W.heap.size W wx → K ⟨#[.int .i64 a0, k1, k2, k3, k4, .int .i64 (1 + r), k6, .int .i64 g, k8, k9, .pointer (some ⟨b10, 0, none⟩), k11, u12, .int .i64 400, k14, k15, k16, k17, k18, k19, k20, k21, k22, k23, k24, k25, k26, k27, k28, k29, k30, k31, k32, k33, k34, k35, k36, k37, k38, k39, k40, k41, k42, k43, k44, k45, k46, k47, k48, k49, k50, k51, k52, k53, k54, k55, k56, k57, k58, k59, u60, u61, u62, u63, u64, u65, u66, u67, u68, u69, u70, u71, u72, u73, k74, k75, k76, k77, k78, k79, k80, k81, k82, k83, k84, k85, k86, k87, k88, k89, k90, k91, k92, k93, k94, k95, k96, k97, k98, k99, k100, k101, k102, k103, k104, k105, k106, k107, k108, k109, k110, k111, k112, k113, k114, k115, k116, k117, k118, k119, k120, k121, k122, k123, k124, k125, k126, k127, k128, k129, k130, k131, k132, k133, k134, k135, k136, k137, k138, k139, k140, k141, k142, k143, k144, k145, k146, k147, k148, k149, k150, k151, k152, k153, k154, k155, k156, k157, k158, k159, k160, k161, k162, k163, k164, k165, k166, k167, k168], []⟩ wx) :
    Code.wp Try.prog ((Try.f5.body.bind (regionOf 9)).getD .skip) (Exit.then K Q') ⟨#[.int .i64 a0, k1, k2, k3, k4, .int .i64 (1 + r), k6, .int .i64 g, k8, k9, .pointer (some ⟨b10, 0, none⟩), k11, k12, k13, k14, k15, k16, k17, k18, k19, k20, k21, k22, k23, k24, k25, k26, k27, k28, k29, k30, k31, k32, k33, k34, k35, k36, k37, k38, k39, k40, k41, k42, k43, k44, k45, k46, k47, k48, k49, k50, k51, k52, k53, k54, k55, k56, k57, k58, k59, k60, k61, k62, k63, k64, k65, k66, k67, k68, k69, k70, k71, k72, k73, k74, k75, k76, k77, k78, k79, k80, k81, k82, k83, k84, k85, k86, k87, k88, k89, k90, k91, k92, k93, k94, k95, k96, k97, k98, k99, k100, k101, k102, k103, k104, k105, k106, k107, k108, k109, k110, k111, k112, k113, k114, k115, k116, k117, k118, k119, k120, k121, k122, k123, k124, k125, k126, k127, k128, k129, k130, k131, k132, k133, k134, k135, k136, k137, k138, k139, k140, k141, k142, k143, k144, k145, k146, k147, k148, k149, k150, k151, k152, k153, k154, k155, k156, k157, k158, k159, k160, k161, k162, k163, k164, k165, k166, k167, k168], []⟩ W := by
  conv => arg 2; whnf
  refine wp_region_noPanic ?_
  obtain ⟨⟨c0, c1, c2, c3⟩, cf0, cf1, cf2, cf3⟩ := B10.four
  have z10 := B10.lt
  go_region_with ((go_at_call 11; refine (hGet t z x1 0 _ HFit.out (HA.out.below (by go_grown) (Nat.le_refl _))).mono ?_; rintro e w4 ⟨rfl, hb⟩; rw [HG.out.1, HG.out.2]; obtain ⟨hc, hf⟩ := bcell hb; have hz := hb.size; simp only [World.size_alloc, World.size_drew] at hz; unfold wordA))
  all_goals
    simp only [NoPanic, Exit.then, Act.put, List.setIfInBounds_toArray, List.set_cons_zero, List.set_cons_succ]
    refine hK _ _ _ _ _ _ _ _ _ _ _ _ _ _ _ _ ?_
    repeat (first | with_reducible exact Below.refl _ _ | with_reducible refine Below.on ?_ hb | with_reducible refine Below.alloc ?_ (by first | omega | (simp only [World.size_alloc, World.size_setCell, World.size_drew]; omega)) _ | with_reducible refine Below.drew ?_ | with_reducible refine Below.setCell ?_ (by first | (simp; done) | (simp; omega)) _)

end Go.Proofs.Ytmjclmjnkmhciaa
