/-
  One statement of ReadsetForms: Good of a number that may not be, whichever order its operations come in.
-/
import Derived.Test.YtleemagdidffpaaReadsAwake
import Derived.Test.YtleemagdidffpaaRegionOf
import Derived.Deep.RegionWith
import Derived.Deep.DrawnRows
import Derived.Deep.RegionHeld3
namespace Go.Proofs.Ytleemagdidffpaa
open Go.RowKit
set_option linter.unusedVariables false
set_option linter.unusedSimpArgs false
attribute [local go_sem ↓] Go.wp_at_zero Go.wp_at_succ

theorem blk_new2 (w : World) (o : Obj) (l : List Value) (t : TypeId) : Blk ((w.alloc o).alloc (.cells l.toArray t)) (w.heap.size + 1) l := by
  have := blk_new (w.alloc o) l t
  rwa [World.size_alloc] at this

set_option maxRecDepth 1000000 in
set_option maxHeartbeats 4000000 in
theorem forms_reg15 (a0 r x : Int) (q b6 b9 : Nat) (t : Nat → Sl) (y : Nat → Nat → Int) (W : World) (hq : bits .and .i64 a0 1 = q) (hq2 : (q : Int) < 2) (hq0 : (0 : Int) ≤ q) (n1 : [Value.int .i64 (-(1 + r)), Value.int .i64 (254 + (1 + r))][q]? = some (.int .i64 x)) (v0 : IntKind.i64.wrap (-(1 + r)) = -(1 + r)) (v1 : IntKind.i64.wrap (254 + (1 + r)) = 254 + (1 + r))
    (HC : Hid (∀ (b : Nat) (w : World), Arn w t y → (Row w (some ⟨b, 0, none⟩) (1 * 3) fun j => .int .i64 (oneR 1 0 0 j)) → Calls Try.prog 13 #[.agg #[.slice (t 0).a (t 0).n (t 0).c, .slice (t 1).a (t 1).n (t 1).c, .slice (t 2).a (t 2).n (t 2).c, .slice (t 3).a (t 3).n (t 3).c], .slice (some ⟨b, 0, none⟩) 1 1, .int .i64 x] w fun e w' => e = .returned (.tuple #[.bool false, .int .i64 900]) ∧ Below w.heap.size w w'))
    (HA : Hid (Arn W t y)) (B6 : Blk W b6 [.int .i64 1, .int .i64 0, .int .i64 0]) (B9 : Blk W b9 (arenaL t))
    (k1 k2 k3 k4 k7 k8 k10 k11 k12 k13 k14 k15 k16 k17 k18 k19 k20 k21 k22 k23 k24 k25 k26 k27 k28 k29 k30 k31 k32 k33 k34 k35 k36 k37 k38 k39 k40 k41 k42 k43 k44 k45 k46 k47 k48 k49 k50 k51 k52 k53 k54 k55 k56 k57 k58 k59 k60 k61 k62 k63 k64 k65 k66 k67 k68 k69 k70 k71 k72 k73 k74 k75 k76 k77 k78 k79 k80 k81 k82 k83 k84 k85 k86 k87 k88 k89 k90 k91 k92 k93 k94 k95 k96 k97 k98 k99 k100 k101 k102 k103 k104 k105 k106 k107 k108 k109 k110 k111 k112 k113 k114 k115 k116 k117 k118 k119 k120 k121 k122 k123 k124 k125 k126 k127 k128 k129 k130 k131 k132 k133 k134 k135 k136 k137 k138 k139 k140 k141 k142 k143 k144 k145 k146 k147 k148 k149 k150 k151 k152 k153 k154 k155 k156 k157 k158 k159 k160 k161 k162 k163 k164 k165 k166 k167 k168 k169 k170 k171 k172 k173 k174 k175 k176 k177 k178 k179 k180 k181 k182 k183 k184 k185 k186 k187 k188 k189 k190 k191 k192 k193 k194 k195 k196 k197 k198 k199 k200 k201 k202 k203 : Value) (K : Act → World → Prop) (Q' : Exit → Act → World → Prop)
    (hK : ∀ (u113 u114 u115 u116 u117 u118 u119 u120 u121 u122 u123 u124 u125 u126 u127 u128 : Value) (wx : World), Below W.heap.size W wx → K ⟨#[.int .i64 a0, k1, k2, k3, k4, .int .i64 (1 + r), .pointer (some ⟨b6, 0, none⟩), k7, k8, .pointer (some ⟨b9, 0, none⟩), k10, k11, k12, k13, k14, k15, k16, k17, k18, k19, k20, k21, .bool false, .int .i64 900, k24, k25, k26, k27, k28, k29, k30, k31, k32, k33, k34, k35, k36, k37, k38, k39, k40, k41, k42, k43, k44, k45, k46, k47, k48, k49, k50, k51, k52, k53, k54, k55, k56, k57, k58, k59, k60, k61, k62, k63, k64, k65, k66, k67, k68, k69, k70, k71, k72, k73, k74, k75, k76, k77, k78, k79, k80, k81, k82, k83, k84, k85, k86, k87, k88, k89, k90, k91, k92, k93, k94, k95, k96, k97, k98, k99, k100, k101, k102, k103, k104, k105, k106, k107, k108, k109, k110, k111, k112, u113, u114, u115, u116, u117, u118, u119, u120, u121, u122, u123, u124, u125, u126, u127, u128, k129, k130, k131, k132, k133, k134, k135, k136, k137, k138, k139, k140, k141, k142, k143, k144, k145, k146, k147, k148, k149, k150, k151, k152, k153, k154, k155, k156, k157, k158, k159, k160, k161, k162, k163, k164, k165, k166, k167, k168, k169, k170, k171, k172, k173, k174, k175, k176, k177, k178, k179, k180, k181, k182, k183, k184, k185, k186, k187, k188, k189, k190, k191, k192, k193, k194, k195, k196, k197, k198, k199, k200, k201, k202, k203], []⟩ wx) :
    Code.wp Try.prog ((Try.f5.body.bind (regionOf 15)).getD .skip) (Exit.then K Q') ⟨#[.int .i64 a0, k1, k2, k3, k4, .int .i64 (1 + r), .pointer (some ⟨b6, 0, none⟩), k7, k8, .pointer (some ⟨b9, 0, none⟩), k10, k11, k12, k13, k14, k15, k16, k17, k18, k19, k20, k21, k22, k23, k24, k25, k26, k27, k28, k29, k30, k31, k32, k33, k34, k35, k36, k37, k38, k39, k40, k41, k42, k43, k44, k45, k46, k47, k48, k49, k50, k51, k52, k53, k54, k55, k56, k57, k58, k59, k60, k61, k62, k63, k64, k65, k66, k67, k68, k69, k70, k71, k72, k73, k74, k75, k76, k77, k78, k79, k80, k81, k82, k83, k84, k85, k86, k87, k88, k89, k90, k91, k92, k93, k94, k95, k96, k97, k98, k99, k100, k101, k102, k103, k104, k105, k106, k107, k108, k109, k110, k111, k112, k113, k114, k115, k116, k117, k118, k119, k120, k121, k122, k123, k124, k125, k126, k127, k128, k129, k130, k131, k132, k133, k134, k135, k136, k137, k138, k139, k140, k141, k142, k143, k144, k145, k146, k147, k148, k149, k150, k151, k152, k153, k154, k155, k156, k157, k158, k159, k160, k161, k162, k163, k164, k165, k166, k167, k168, k169, k170, k171, k172, k173, k174, k175, k176, k177, k178, k179, k180, k181, k182, k183, k184, k185, k186, k187, k188, k189, k190, k191, k192, k193, k194, k195, k196, k197, k198, k199, k200, k201, k202, k203], []⟩ W := by
  conv => arg 2; whnf
  refine wp_region_noPanic ?_
  obtain ⟨⟨c0, c1, c2, c3⟩, cf0, cf1, cf2, cf3⟩ := B9.four
  obtain ⟨⟨d0, d1, d2⟩, df0, df1, df2⟩ := B6.three
  have z9 := B9.lt
  have z6 := B6.lt
  go_region_with ((go_at_call 13; refine (HC.out _ _ ?_ ?_).mono ?_; (exact HA.out.below (B := W.heap.size) (by go_grown) (Nat.le_refl _)); (refine Blk.read (l := 1) (i := 0) (v := 0) ?_; first | exact ((blk_new W _ _).alloc _).drew | exact (blk_new2 W _ _ _).drew | exact (blk_new W _ _).alloc _ | exact blk_new2 W _ _ _ | exact ((blk_new W _ _).drew).alloc _); rintro e w4 ⟨rfl, hb⟩; obtain ⟨hc, hf⟩ := bcell hb; have hz := hb.size; (try simp only [World.size_alloc, World.size_drew] at hz)))
  all_goals
    simp only [NoPanic, Exit.then, Act.put, List.setIfInBounds_toArray, List.set_cons_zero, List.set_cons_succ]
    refine hK _ _ _ _ _ _ _ _ _ _ _ _ _ _ _ _ _ ?_
    repeat (first | with_reducible exact Below.refl _ _ | with_reducible refine Below.on ?_ hb | with_reducible refine Below.alloc ?_ (by first | omega | (simp only [World.size_alloc, World.size_setCell, World.size_drew]; omega)) _ | with_reducible refine Below.drew ?_ | with_reducible refine Below.setCell ?_ (by first | (simp; done) | (simp; omega)) _)

end Go.Proofs.Ytleemagdidffpaa
