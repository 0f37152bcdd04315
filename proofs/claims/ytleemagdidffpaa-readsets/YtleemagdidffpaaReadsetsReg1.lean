/-
  One statement of Readsets: what is lent and what is copied, whichever order its operations come in.
-/
import Derived.Test.YtleemagdidffpaaReadsAwake
import Derived.Test.YtleemagdidffpaaRegionOf
import Derived.Deep.RegionWith
import Derived.Deep.DrawnRows
import Derived.Deep.RegionHeld3
namespace Go.Proofs.Ytleemagdidffpaa
open Go.RowKit
set_option linter.unusedVariables false
set_option linter.unusedSimpArgs false
attribute [local go_sem ↓] Go.wp_at_zero Go.wp_at_succ

theorem Blk.as {w : World} {b : Nat} {l l' : List Value} (h : Blk w b l) (e : l = l') : Blk w b l' := e ▸ h

set_option maxRecDepth 1000000 in
set_option maxHeartbeats 4000000 in
theorem readsets_reg1 (a : Option Addr) (n c b6 : Nat) (z : Nat → Int) (s : Nat → Sl) (y : Nat → Nat → Int) (W : World) (hn : n * 24 ≤ 140737488351232) (HN : Hid (a = none → n = 0 ∧ c = 0)) (HR : Hid (Row W a (n * 3) fun i => .int .i64 (z i))) (HF : Hid (Fit s)) (HA : Hid (Arn W s y)) (B6 : Blk W b6 (arenaL s))
    (k1 k2 k3 k4 k5 k7 k8 k9 k10 k11 k12 k13 k14 k15 k16 k17 k18 k19 k20 k21 k22 k23 k24 k25 k26 k27 k28 k29 k30 k31 k32 k33 k34 k35 k36 k37 k38 k39 k40 k41 k42 k43 k44 k45 k46 k47 k48 k49 k50 k51 k52 k53 k54 k55 k56 k57 k58 k59 k60 k61 k62 k63 k64 k65 k66 k67 k68 k69 k70 k71 k72 k73 k74 k75 k76 k77 k78 k79 k80 k81 k82 k83 k84 k85 k86 k87 k88 k89 k90 k91 k92 k93 k94 k95 k96 k97 k98 k99 k100 k101 k102 k103 k104 k105 k106 k107 k108 k109 k110 k111 k112 k113 k114 k115 k116 : Value) (K : Act → World → Prop) (Q' : Exit → Act → World → Prop)
    (hK : ∀ (g cap b10 : Nat) (t : Nat → Sl) (u23 u24 u25 u26 : Value) (wx : World), n + 2 ≤ cap → Own wx g ((n + 2) * 3) (intF (lentR z n)) → (∀ g, g < 4 → (t g).n = (s g).n) → Nilly t → Arn wx t y → Blk wx b10 (arenaL t) → Below W.heap.size W wx → K ⟨#[.slice a n c, k1, k2, k3, k4, k5, .pointer (some ⟨b6, 0, none⟩), k7, k8, .slice (some ⟨g, 0, none⟩) n cap, .pointer (some ⟨b10, 0, none⟩), k11, k12, k13, k14, k15, k16, k17, k18, k19, k20, k21, k22, u23, u24, u25, u26, k27, k28, k29, k30, k31, k32, k33, k34, k35, k36, k37, k38, k39, k40, k41, k42, k43, k44, k45, k46, k47, k48, k49, k50, k51, k52, k53, k54, k55, k56, k57, k58, k59, k60, k61, k62, k63, k64, k65, k66, k67, k68, k69, k70, k71, k72, k73, k74, k75, k76, k77, k78, k79, k80, k81, k82, k83, k84, k85, k86, k87, k88, k89, k90, k91, k92, k93, k94, k95, k96, k97, k98, k99, k100, k101, k102, k103, k104, k105, k106, k107, k108, k109, k110, k111, k112, k113, k114, k115, k116], []⟩ wx) :
    Code.wp Try.prog ((Try.f3.body.bind (regionOf 1)).getD .skip) (Exit.then K Q') ⟨#[.slice a n c, k1, k2, k3, k4, k5, .pointer (some ⟨b6, 0, none⟩), k7, k8, k9, k10, k11, k12, k13, k14, k15, k16, k17, k18, k19, k20, k21, k22, k23, k24, k25, k26, k27, k28, k29, k30, k31, k32, k33, k34, k35, k36, k37, k38, k39, k40, k41, k42, k43, k44, k45, k46, k47, k48, k49, k50, k51, k52, k53, k54, k55, k56, k57, k58, k59, k60, k61, k62, k63, k64, k65, k66, k67, k68, k69, k70, k71, k72, k73, k74, k75, k76, k77, k78, k79, k80, k81, k82, k83, k84, k85, k86, k87, k88, k89, k90, k91, k92, k93, k94, k95, k96, k97, k98, k99, k100, k101, k102, k103, k104, k105, k106, k107, k108, k109, k110, k111, k112, k113, k114, k115, k116], []⟩ W := by
  conv => arg 2; whnf
  refine wp_region_noPanic ?_
  obtain ⟨⟨c0, c1, c2, c3⟩, cf0, cf1, cf2, cf3⟩ := B6.four
  have z6 := B6.lt
  have CL := hide fun w h => lendReads_any a n c z w hn HN.out h
  have CC := hide fun w h => copyArena_any s y w HF.out h
  unfold arenaA at CC
  go_region_with ((first | (go_at_call 9; refine (CL.out _ ?_).mono ?_; (exact HR.out.below (B := W.heap.size) (by go_grown) (Nat.le_refl _)); rintro e w3 ⟨g, cap, rfl, hg, hcap, O3, hb3⟩; have B63 : Blk w3 b6 (arenaL s) := (by first | exact B6.drew.on hb3 | exact (B6.drew.alloc _).on hb3 | exact (B6.alloc _).drew.on hb3); obtain ⟨⟨e0, e1, e2, e3⟩, ef0, ef1, ef2, ef3⟩ := B63.four; have z63 := B63.lt; obtain ⟨hc3, hf3⟩ := bcell hb3; have hz3 := hb3.size; (try simp only [World.size_alloc, World.size_drew] at hz3); (try (have B10 : Blk w3 W.heap.size (arenaL nilS) := (by first | exact (blk_new W (arenaL nilS) 26).drew.on hb3 | exact (blk_new W.drew (arenaL nilS) 26).on hb3); have x10 := B10.lt))) | (go_at_call 10; refine (CC.out _ ?_).mono ?_; (refine HA.out.below (B := W.heap.size) ?_ (Nat.le_refl _); (repeat (first | with_reducible exact Below.refl _ _ | with_reducible refine Below.on ?_ hb3 | with_reducible refine Below.alloc ?_ (by first | omega | (simp only [World.size_alloc, World.size_setCell, World.size_drew]; omega)) _ | with_reducible refine Below.drew ?_))); rintro e w4 ⟨t, rfl, htn, hny, hF4, hb4⟩; have HTN := hide htn; clear htn; obtain ⟨hc4, hf4⟩ := bcell hb4; have hz4 := hb4.size; (try simp only [World.size_alloc, World.size_drew] at hz4); (try (have B11 : Blk w4 W.heap.size (arenaL nilS) := (by first | exact B10.on hb4 | exact (B10.drew).on hb4); obtain ⟨⟨x0, x1, x2, x3⟩, xf0, xf1, xf2, xf3⟩ := B11.four; have x11 := B11.lt; unfold nilS at x0 x1 x2 x3)); (try (have B12 : Blk w4 w3.heap.size (arenaL nilS) := (by first | exact (blk_new w3 (arenaL nilS) 26).on hb4 | exact (blk_new w3 (arenaL nilS) 26).drew.on hb4); obtain ⟨⟨x0, x1, x2, x3⟩, xf0, xf1, xf2, xf3⟩ := B12.four; have x12 := B12.lt; unfold nilS at x0 x1 x2 x3)))))
  all_goals
    simp only [NoPanic, Exit.then, Act.put, List.setIfInBounds_toArray, List.set_cons_zero, List.set_cons_succ]
    have gl := O3.lt
    have OW : Own w4 g ((n + 2) * 3) (intF (lentR z n)) := (by first | exact O3.on hb4 | exact (O3.alloc _).on hb4)
    have FA := hF4
    simp only [World.size_alloc, World.size_drew] at hg FA
    refine hK g cap _ t _ _ _ _ _ hcap ?_ HTN.out hny ?_ ?_ ?_
    · first
        | with_reducible exact OW.alloc _
        | with_reducible exact (((OW.far _ (by simp; omega)).far _ (by simp; omega)).far _ (by simp; omega)).far _ (by simp; omega)
    · first
        | with_reducible exact (FA.alloc _).arn
        | with_reducible exact ((((FA.far _ (.inl (by simp; omega))).far _ (.inl (by simp; omega))).far _ (.inl (by simp; omega))).far _ (.inl (by simp; omega))).arn
        | with_reducible exact ((((FA.far _ (.inl (by simp))).far _ (.inl (by simp))).far _ (.inl (by simp))).far _ (.inl (by simp))).arn
    · first
        | ((with_reducible refine Blk.as (blk_new w4 _ _) ?_); rfl)
        | ((with_reducible refine Blk.as ((((B12.set 0 _).set 1 _).set 2 _).set 3 _) ?_); rfl)
        | ((with_reducible refine Blk.as ((((B11.set 0 _).set 1 _).set 2 _).set 3 _) ?_); rfl)
    · repeat (first | with_reducible exact Below.refl _ _ | with_reducible refine Below.on ?_ hb4 | with_reducible refine Below.on ?_ hb3 | with_reducible refine Below.alloc ?_ (by first | omega | (simp only [World.size_alloc, World.size_setCell, World.size_drew]; omega)) _ | with_reducible refine Below.drew ?_ | with_reducible refine Below.setCell ?_ (by first | (simp; done) | (simp; omega)) _)

end Go.Proofs.Ytleemagdidffpaa
