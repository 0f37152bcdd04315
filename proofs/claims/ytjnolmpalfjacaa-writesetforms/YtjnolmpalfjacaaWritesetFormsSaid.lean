/-
  The law WritesetForms, if package writeset's functions keep their statements.
-/
import Derived.Test.YtjnolmpalfjacaaWritesAwake
import Derived.Test.YtjnolmpalfjacaaPlain
import Derived.Test.YtjnolmpalfjacaaLz
import Derived.Deep.Cut
namespace Go.Proofs.Ytjnolmpalfjacaa
open Go.RowKit
set_option linter.unusedSimpArgs false
set_option linter.unusedVariables false

/-- With of what may not be: nothing. -/
theorem WithWC.no (hW : WithWC) {a : Option Addr} {n c : Nat} {z : Nat → Int} {l i v : Int} {w : World} (hn : n ≤ 1152921504606846976) (hc : n ≤ c) (ha : a = none → n = 0 ∧ c = 0) (h : Row w a (n * 3) fun i => .int .i64 (z i)) (ho : withWOk n z l i v = false) :
    Calls Try.prog 9 #[.slice a n c, .agg #[.int .i64 l, .int .i64 i, .int .i64 v]] w fun e w' => e = .returned (.tuple #[.slice none 0 0, .int .i64 1000]) ∧ Below w.heap.size w w' :=
  (hW a n c z l i v w hn hc ha h).mono fun e w' ⟨x, he, _, _, _, hx, _, hb⟩ => by
    rw [hx ho] at he
    unfold withWE at he
    rw [ho] at he
    exact ⟨he, hb⟩
/-- The writes that may not be. -/
def badW (r : Int) : Nat → Int := lz [-(1 + r), 0, 0, 3 + (1 + r), 0, 0, 0, -(1 + r), 0, 0, 3 + (1 + r), 0, 0, 0, -(1 + r), 0, 0, 255 + (1 + r)]
theorem badW_no (r : Int) (r0 : 0 ≤ r) (p : Nat) (hp : p < 6) : writeMay (badW r (p * 3)) (badW r (p * 3 + 1)) (badW r (p * 3 + 2)) = false := by
  have : p = 0 ∨ p = 1 ∨ p = 2 ∨ p = 3 ∨ p = 4 ∨ p = 5 := by omega
  rcases this with rfl | rfl | rfl | rfl | rfl | rfl
  · show writeMay (-(1 + r)) 0 0 = false
    unfold writeMay
    rw [upToV_not (.inl (by omega))]; rfl
  · show writeMay (3 + (1 + r)) 0 0 = false
    unfold writeMay
    rw [upToV_not (.inr (by omega))]; rfl
  · show writeMay 0 (-(1 + r)) 0 = false
    unfold writeMay
    rw [upToV_not (n := -(1 + r)) (.inl (by omega))]; rfl
  · show writeMay 0 (3 + (1 + r)) 0 = false
    unfold writeMay
    rw [upToV_not (n := 3 + (1 + r)) (.inr (by omega))]; rfl
  · show writeMay 0 0 (-(1 + r)) = false
    unfold writeMay
    rw [upToV_not (n := -(1 + r)) (.inl (by omega))]; rfl
  · show writeMay 0 0 (255 + (1 + r)) = false
    unfold writeMay
    rw [upToV_not (n := 255 + (1 + r)) (.inr (by omega))]; rfl

set_option maxRecDepth 100000 in
set_option maxHeartbeats 8000000 in
theorem writesetForms_at (hM : MayWC) (hW : WithWC) (hF : FindWC) (hA : AtWC) (a0 a1 r : Int) (p : Nat) (w : World) (hd : bits .and .i64 a1 1023 = r) (r0 : 0 ≤ r) (r1 : r ≤ 1023) (hp : wrap64 ((IntKind.u64.wrap a0).tmod 6) = p) (hp6 : (p : Int) < 6) :
    Calls Try.prog 5 #[.int .i64 a0, .int .i64 a1] w fun e w' => e = .returned (.bool true) ∧ Below w.heap.size w w' := by
  have v0 : IntKind.i64.wrap (-(1 + r)) = -(1 + r) := IntWalk.i64_in _ ⟨by omega, by omega⟩
  have v2 : IntKind.i64.wrap (3 + (1 + r)) = 3 + (1 + r) := IntWalk.i64_in _ ⟨by omega, by omega⟩
  have v3 : IntKind.i64.wrap (255 + (1 + r)) = 255 + (1 + r) := IntWalk.i64_in _ ⟨by omega, by omega⟩
  have v4 : IntKind.i64.wrap (1 + r) = 1 + r := IntWalk.i64_in _ ⟨by omega, by omega⟩
  have C0 := hide fun w => awake10_any hM hW hF hA w
  have C3 := hide fun b w h => hW.no (a := some ⟨b, 0, none⟩) (n := 2) (c := 2) (z := twoW 1 1 5 0 3 0) (l := 1) (i := 1) (v := 5) (w := w) (by omega) (by omega) (fun e => by cases e) h (by kernel_rfl)
  have C4 := hide fun b w h => hF (some ⟨b, 0, none⟩) 2 2 (twoW 1 1 5 0 3 0) 1 1 w (by omega) (by omega) (fun e => by cases e) h
  rw [show findVal 2 (twoW 1 1 5 0 3 0) 1 1 = 0 by kernel_rfl, show findIs 2 (twoW 1 1 5 0 3 0) 1 1 = false by kernel_rfl] at C4
  have C5 := hide fun b w h => hF (some ⟨b, 0, none⟩) 2 2 (twoW 1 1 5 1 1 5) 1 1 w (by omega) (by omega) (fun e => by cases e) h
  rw [show findVal 2 (twoW 1 1 5 1 1 5) 1 1 = 0 by kernel_rfl, show findIs 2 (twoW 1 1 5 1 1 5) 1 1 = false by kernel_rfl] at C5
  have C7 := hide fun b w h => hM (some ⟨b, 0, none⟩) 2 2 (twoW 1 1 5 0 3 0) w (by omega) (by omega) h
  rw [show writesMay 2 (twoW 1 1 5 0 3 0) = false by kernel_rfl] at C7
  have C8 := hide fun b w h => hM (some ⟨b, 0, none⟩) 2 2 (twoW 1 1 5 1 1 5) w (by omega) (by omega) h
  rw [show writesMay 2 (twoW 1 1 5 1 1 5) = false by kernel_rfl] at C8
  have C9 := hide fun b w h => hM (some ⟨b, 0, none⟩) 2 2 (twoW 0 3 0 1 1 5) w (by omega) (by omega) h
  rw [show writesMay 2 (twoW 0 3 0 1 1 5) = true by kernel_rfl] at C9
  have CA := hide fun b w h => hA (some ⟨b, 0, none⟩) 2 2 (twoW 1 1 5 1 1 5) 1 w (by omega) (by omega) h
  rw [show atW 2 (twoW 1 1 5 1 1 5) 1 = false by kernel_rfl] at CA
  have CB := hide fun w => hA none 0 0 (fun _ => 0) (1 + r) w (by omega) (by omega) (row_zero _ _ _)
  rw [show atW 0 (fun _ => 0) (1 + r) = true by rfl] at CB
  go_enter Try.func5, Try.ntmps5
  go_wp2_with fail
  refine (C0.out _).mono ?_
  rintro e w1 ⟨rfl, b1⟩
  have s1 := b1.size
  clear C0
  go_upto_region 6 with (fail)
  have P6 := (blk_new w1 [.int .i64 1, .int .i64 1, .int .i64 5] 24).alloc (.cells #[.int .i64 (-(1 + r)), .int .i64 0, .int .i64 0, .int .i64 (3 + (1 + r)), .int .i64 0, .int .i64 0, .int .i64 0, .int .i64 (-(1 + r)), .int .i64 0, .int .i64 0, .int .i64 (3 + (1 + r)), .int .i64 0, .int .i64 0, .int .i64 0, .int .i64 (-(1 + r)), .int .i64 0, .int .i64 0, .int .i64 (255 + (1 + r))] 24)
  have Bb : Blk ((w1.alloc (.cells #[.int .i64 1, .int .i64 1, .int .i64 5] 24)).alloc (.cells #[.int .i64 (-(1 + r)), .int .i64 0, .int .i64 0, .int .i64 (3 + (1 + r)), .int .i64 0, .int .i64 0, .int .i64 0, .int .i64 (-(1 + r)), .int .i64 0, .int .i64 0, .int .i64 (3 + (1 + r)), .int .i64 0, .int .i64 0, .int .i64 0, .int .i64 (-(1 + r)), .int .i64 0, .int .i64 0, .int .i64 (255 + (1 + r))] 24)) (w1.heap.size + 1) ([-(1 + r), 0, 0, 3 + (1 + r), 0, 0, 0, -(1 + r), 0, 0, 3 + (1 + r), 0, 0, 0, -(1 + r), 0, 0, 255 + (1 + r)].map (Value.int .i64)) := by
    have := blk_lz (w1.alloc (.cells #[.int .i64 1, .int .i64 1, .int .i64 5] 24)) [-(1 + r), 0, 0, 3 + (1 + r), 0, 0, 0, -(1 + r), 0, 0, 3 + (1 + r), 0, 0, 0, -(1 + r), 0, 0, 255 + (1 + r)] 24
    rw [World.size_alloc] at this
    exact this
  have b2 : Below w.heap.size w ((w1.alloc (.cells #[.int .i64 1, .int .i64 1, .int .i64 5] 24)).alloc (.cells #[.int .i64 (-(1 + r)), .int .i64 0, .int .i64 0, .int .i64 (3 + (1 + r)), .int .i64 0, .int .i64 0, .int .i64 0, .int .i64 (-(1 + r)), .int .i64 0, .int .i64 0, .int .i64 (3 + (1 + r)), .int .i64 0, .int .i64 0, .int .i64 0, .int .i64 (-(1 + r)), .int .i64 0, .int .i64 0, .int .i64 (255 + (1 + r))] 24)) := (b1.alloc s1 _).alloc (by simp only [World.size_alloc]; omega) _
  change Blk ((w1.alloc (.cells #[.int .i64 1, .int .i64 1, .int .i64 5] 24)).alloc (.cells #[.int .i64 (-(1 + r)), .int .i64 0, .int .i64 0, .int .i64 (3 + (1 + r)), .int .i64 0, .int .i64 0, .int .i64 0, .int .i64 (-(1 + r)), .int .i64 0, .int .i64 0, .int .i64 (3 + (1 + r)), .int .i64 0, .int .i64 0, .int .i64 0, .int .i64 (-(1 + r)), .int .i64 0, .int .i64 0, .int .i64 (255 + (1 + r))] 24)) _ _ at P6
  generalize (w1.alloc (.cells #[.int .i64 1, .int .i64 1, .int .i64 5] 24)).alloc (.cells #[.int .i64 (-(1 + r)), .int .i64 0, .int .i64 0, .int .i64 (3 + (1 + r)), .int .i64 0, .int .i64 0, .int .i64 0, .int .i64 (-(1 + r)), .int .i64 0, .int .i64 0, .int .i64 (3 + (1 + r)), .int .i64 0, .int .i64 0, .int .i64 0, .int .i64 (-(1 + r)), .int .i64 0, .int .i64 0, .int .i64 (255 + (1 + r))] 24) = W1 at *
  have hcell : ∀ j, j < 18 → W1.cell? ⟨w1.heap.size + 1, j, none⟩ = some (.int .i64 (badW r j)) := fun j hj => by
    obtain ⟨b', off, e, _, hcl⟩ := Bb.lzRow j (by simpa using hj)
    simp only [Option.some.injEq, Addr.mk.injEq, and_true] at e
    obtain ⟨rfl, rfl⟩ := e
    rw [Nat.zero_add] at hcl
    exact hcl
  have e0 := hcell (p * 3) (by omega)
  have e1 := hcell (p * 3 + 1) (by omega)
  have e2 := hcell (p * 3 + 2) (by omega)
  have HX := hide (badW_no r r0 p (by omega))
  have zb := Bb.lt
  have z6 := P6.lt
  have s2 := b2.size
  clear hcell Bb b1
  generalize badW r (p * 3) = x0, badW r (p * 3 + 1) = x1, badW r (p * 3 + 2) = x2 at *
  have C1 := hide fun w => hW.no (a := none) (n := 0) (c := 0) (z := fun _ => 0) (l := x0) (i := x1) (v := x2) (w := w) (by omega) (by omega) (fun _ => ⟨rfl, rfl⟩) (row_zero _ _ _) (withWOk_write HX.out)
  have C2 := hide fun b w h => hW.no (a := some ⟨b, 0, none⟩) (n := 1) (c := 1) (z := oneW x0 x1 x2) (l := 1) (i := 1) (v := 5) (w := w) (by omega) (by omega) (fun e => by cases e) h (withWOk_writes (by rw [writesMay_one]; exact HX.out))
  have C6 := hide fun b w h => hM (some ⟨b, 0, none⟩) 1 1 (oneW x0 x1 x2) w (by omega) (by omega) h
  rw [writesMay_one, HX.out] at C6
  clear hM hW hF hA HX
  go_upto_region 7 with (fail)
  have P8 := blk_new W1 [.int .i64 x0, .int .i64 x1, .int .i64 x2] 24
  replace P6 := P6.alloc (.cells #[.int .i64 x0, .int .i64 x1, .int .i64 x2] 24)
  replace b2 := b2.alloc s2 (.cells #[.int .i64 x0, .int .i64 x1, .int .i64 x2] 24)
  change Blk (W1.alloc (.cells #[.int .i64 x0, .int .i64 x1, .int .i64 x2] 24)) _ _ at P8
  clear e0 e1 e2 zb z6 s2 hp hp6 hd
  generalize W1.heap.size = b8 at *
  generalize W1.alloc (.cells #[.int .i64 x0, .int .i64 x1, .int .i64 x2] 24) = W2 at *
  generalize w1.heap.size = b6 at *
  clear W1
  have s2 := b2.size
  go_upto_region 8 with (fail)
  have P9 := blk_new W2 [.int .i64 0, .int .i64 3, .int .i64 0] 24
  replace P6 := P6.alloc (.cells #[.int .i64 0, .int .i64 3, .int .i64 0] 24)
  replace P8 := P8.alloc (.cells #[.int .i64 0, .int .i64 3, .int .i64 0] 24)
  replace b2 := b2.alloc s2 (.cells #[.int .i64 0, .int .i64 3, .int .i64 0] 24)
  change Blk (W2.alloc (.cells #[.int .i64 0, .int .i64 3, .int .i64 0] 24)) _ _ at P6 P8 P9
  generalize W2.heap.size = b9 at *
  generalize W2.alloc (.cells #[.int .i64 0, .int .i64 3, .int .i64 0] 24) = V0 at *
  clear W2 s2
  obtain ⟨⟨g0, g1, g2⟩, gf0, gf1, gf2⟩ := P6.three
  obtain ⟨⟨x0', x1', x2'⟩, xf0, xf1, xf2⟩ := P8.three
  obtain ⟨⟨h0, h1, h2⟩, hf0, hf1, hf2⟩ := P9.three
  have l6 := P6.lt
  have l8 := P8.lt
  have l9 := P9.lt
  go_wp2_with fail
  refine (C1.out _).mono ?_
  rintro e V1 ⟨rfl, hb⟩
  replace b2 := Below.on b2 hb
  replace P6 := P6.on hb
  replace P8 := P8.on hb
  replace P9 := P9.on hb
  clear hb C1 g0 g1 g2 gf0 gf1 gf2 x0' x1' x2' xf0 xf1 xf2 h0 h1 h2 hf0 hf1 hf2 l6 l8 l9
  obtain ⟨⟨g0, g1, g2⟩, gf0, gf1, gf2⟩ := P6.three
  obtain ⟨⟨x0', x1', x2'⟩, xf0, xf1, xf2⟩ := P8.three
  obtain ⟨⟨h0, h1, h2⟩, hf0, hf1, hf2⟩ := P9.three
  have l6 := P6.lt
  have l8 := P8.lt
  have l9 := P9.lt
  go_wp2_with fail
  have bb := (Below.refl V1.heap.size V1).alloc (Nat.le_refl _) (.cells #[.int .i64 x0, .int .i64 x1, .int .i64 x2] 24)
  refine (C2.out _ _ (blk_new V1 [.int .i64 x0, .int .i64 x1, .int .i64 x2] 24).write).mono ?_
  rintro e V2 ⟨rfl, hb⟩
  replace hb := Below.on bb hb
  clear bb
  replace b2 := Below.on b2 hb
  replace P6 := P6.on hb
  replace P8 := P8.on hb
  replace P9 := P9.on hb
  clear hb C2 g0 g1 g2 gf0 gf1 gf2 x0' x1' x2' xf0 xf1 xf2 h0 h1 h2 hf0 hf1 hf2 l6 l8 l9
  obtain ⟨⟨g0, g1, g2⟩, gf0, gf1, gf2⟩ := P6.three
  obtain ⟨⟨x0', x1', x2'⟩, xf0, xf1, xf2⟩ := P8.three
  obtain ⟨⟨h0, h1, h2⟩, hf0, hf1, hf2⟩ := P9.three
  have l6 := P6.lt
  have l8 := P8.lt
  have l9 := P9.lt
  go_wp2_with fail
  have bb := (Below.refl V2.heap.size V2).alloc (Nat.le_refl _) (.cells #[.int .i64 1, .int .i64 1, .int .i64 5, .int .i64 0, .int .i64 3, .int .i64 0] 24)
  refine (C3.out _ _ (blk_new V2 [.int .i64 1, .int .i64 1, .int .i64 5, .int .i64 0, .int .i64 3, .int .i64 0] 24).writes).mono ?_
  rintro e V3 ⟨rfl, hb⟩
  replace hb := Below.on bb hb
  clear bb
  replace b2 := Below.on b2 hb
  replace P6 := P6.on hb
  replace P8 := P8.on hb
  replace P9 := P9.on hb
  clear hb C3 g0 g1 g2 gf0 gf1 gf2 x0' x1' x2' xf0 xf1 xf2 h0 h1 h2 hf0 hf1 hf2 l6 l8 l9
  obtain ⟨⟨g0, g1, g2⟩, gf0, gf1, gf2⟩ := P6.three
  obtain ⟨⟨x0', x1', x2'⟩, xf0, xf1, xf2⟩ := P8.three
  obtain ⟨⟨h0, h1, h2⟩, hf0, hf1, hf2⟩ := P9.three
  have l6 := P6.lt
  have l8 := P8.lt
  have l9 := P9.lt
  go_wp2_with fail
  have bb := (Below.refl V3.heap.size V3).alloc (Nat.le_refl _) (.cells #[.int .i64 1, .int .i64 1, .int .i64 5, .int .i64 0, .int .i64 3, .int .i64 0] 24)
  refine (C4.out _ _ (blk_new V3 [.int .i64 1, .int .i64 1, .int .i64 5, .int .i64 0, .int .i64 3, .int .i64 0] 24).writes).mono ?_
  rintro e V4 ⟨rfl, hb⟩
  replace hb := Below.on bb hb
  clear bb
  replace b2 := Below.on b2 hb
  replace P6 := P6.on hb
  replace P8 := P8.on hb
  replace P9 := P9.on hb
  clear hb C4 g0 g1 g2 gf0 gf1 gf2 x0' x1' x2' xf0 xf1 xf2 h0 h1 h2 hf0 hf1 hf2 l6 l8 l9
  obtain ⟨⟨g0, g1, g2⟩, gf0, gf1, gf2⟩ := P6.three
  obtain ⟨⟨x0', x1', x2'⟩, xf0, xf1, xf2⟩ := P8.three
  obtain ⟨⟨h0, h1, h2⟩, hf0, hf1, hf2⟩ := P9.three
  have l6 := P6.lt
  have l8 := P8.lt
  have l9 := P9.lt
  go_wp2_with fail
  have bb := (Below.refl V4.heap.size V4).alloc (Nat.le_refl _) (.cells #[.int .i64 1, .int .i64 1, .int .i64 5, .int .i64 1, .int .i64 1, .int .i64 5] 24)
  refine (C5.out _ _ (blk_new V4 [.int .i64 1, .int .i64 1, .int .i64 5, .int .i64 1, .int .i64 1, .int .i64 5] 24).writes).mono ?_
  rintro e V5 ⟨rfl, hb⟩
  replace hb := Below.on bb hb
  clear bb
  replace b2 := Below.on b2 hb
  replace P6 := P6.on hb
  replace P8 := P8.on hb
  replace P9 := P9.on hb
  clear hb C5 g0 g1 g2 gf0 gf1 gf2 x0' x1' x2' xf0 xf1 xf2 h0 h1 h2 hf0 hf1 hf2 l6 l8 l9
  obtain ⟨⟨g0, g1, g2⟩, gf0, gf1, gf2⟩ := P6.three
  obtain ⟨⟨x0', x1', x2'⟩, xf0, xf1, xf2⟩ := P8.three
  obtain ⟨⟨h0, h1, h2⟩, hf0, hf1, hf2⟩ := P9.three
  have l6 := P6.lt
  have l8 := P8.lt
  have l9 := P9.lt
  go_wp2_with fail
  have bb := (Below.refl V5.heap.size V5).alloc (Nat.le_refl _) (.cells #[.int .i64 x0, .int .i64 x1, .int .i64 x2] 24)
  refine (C6.out _ _ (blk_new V5 [.int .i64 x0, .int .i64 x1, .int .i64 x2] 24).write).mono ?_
  rintro e V6 ⟨rfl, hb⟩
  replace hb := Below.on bb hb
  clear bb
  replace b2 := Below.on b2 hb
  replace P6 := P6.on hb
  replace P8 := P8.on hb
  replace P9 := P9.on hb
  clear hb C6 g0 g1 g2 gf0 gf1 gf2 x0' x1' x2' xf0 xf1 xf2 h0 h1 h2 hf0 hf1 hf2 l6 l8 l9
  obtain ⟨⟨g0, g1, g2⟩, gf0, gf1, gf2⟩ := P6.three
  obtain ⟨⟨x0', x1', x2'⟩, xf0, xf1, xf2⟩ := P8.three
  obtain ⟨⟨h0, h1, h2⟩, hf0, hf1, hf2⟩ := P9.three
  have l6 := P6.lt
  have l8 := P8.lt
  have l9 := P9.lt
  go_wp2_with fail
  have bb := (Below.refl V6.heap.size V6).alloc (Nat.le_refl _) (.cells #[.int .i64 1, .int .i64 1, .int .i64 5, .int .i64 0, .int .i64 3, .int .i64 0] 24)
  refine (C7.out _ _ (blk_new V6 [.int .i64 1, .int .i64 1, .int .i64 5, .int .i64 0, .int .i64 3, .int .i64 0] 24).writes).mono ?_
  rintro e V7 ⟨rfl, hb⟩
  replace hb := Below.on bb hb
  clear bb
  replace b2 := Below.on b2 hb
  replace P6 := P6.on hb
  replace P8 := P8.on hb
  replace P9 := P9.on hb
  clear hb C7 g0 g1 g2 gf0 gf1 gf2 x0' x1' x2' xf0 xf1 xf2 h0 h1 h2 hf0 hf1 hf2 l6 l8 l9
  obtain ⟨⟨g0, g1, g2⟩, gf0, gf1, gf2⟩ := P6.three
  obtain ⟨⟨x0', x1', x2'⟩, xf0, xf1, xf2⟩ := P8.three
  obtain ⟨⟨h0, h1, h2⟩, hf0, hf1, hf2⟩ := P9.three
  have l6 := P6.lt
  have l8 := P8.lt
  have l9 := P9.lt
  go_wp2_with fail
  have bb := (Below.refl V7.heap.size V7).alloc (Nat.le_refl _) (.cells #[.int .i64 1, .int .i64 1, .int .i64 5, .int .i64 1, .int .i64 1, .int .i64 5] 24)
  refine (C8.out _ _ (blk_new V7 [.int .i64 1, .int .i64 1, .int .i64 5, .int .i64 1, .int .i64 1, .int .i64 5] 24).writes).mono ?_
  rintro e V8 ⟨rfl, hb⟩
  replace hb := Below.on bb hb
  clear bb
  replace b2 := Below.on b2 hb
  replace P6 := P6.on hb
  replace P8 := P8.on hb
  replace P9 := P9.on hb
  clear hb C8 g0 g1 g2 gf0 gf1 gf2 x0' x1' x2' xf0 xf1 xf2 h0 h1 h2 hf0 hf1 hf2 l6 l8 l9
  obtain ⟨⟨g0, g1, g2⟩, gf0, gf1, gf2⟩ := P6.three
  obtain ⟨⟨x0', x1', x2'⟩, xf0, xf1, xf2⟩ := P8.three
  obtain ⟨⟨h0, h1, h2⟩, hf0, hf1, hf2⟩ := P9.three
  have l6 := P6.lt
  have l8 := P8.lt
  have l9 := P9.lt
  go_wp2_with fail
  have bb := (Below.refl V8.heap.size V8).alloc (Nat.le_refl _) (.cells #[.int .i64 0, .int .i64 3, .int .i64 0, .int .i64 1, .int .i64 1, .int .i64 5] 24)
  refine (C9.out _ _ (blk_new V8 [.int .i64 0, .int .i64 3, .int .i64 0, .int .i64 1, .int .i64 1, .int .i64 5] 24).writes).mono ?_
  rintro e V9 ⟨rfl, hb⟩
  replace hb := Below.on bb hb
  clear bb
  replace b2 := Below.on b2 hb
  replace P6 := P6.on hb
  replace P8 := P8.on hb
  replace P9 := P9.on hb
  clear hb C9 g0 g1 g2 gf0 gf1 gf2 x0' x1' x2' xf0 xf1 xf2 h0 h1 h2 hf0 hf1 hf2 l6 l8 l9
  obtain ⟨⟨g0, g1, g2⟩, gf0, gf1, gf2⟩ := P6.three
  obtain ⟨⟨x0', x1', x2'⟩, xf0, xf1, xf2⟩ := P8.three
  obtain ⟨⟨h0, h1, h2⟩, hf0, hf1, hf2⟩ := P9.three
  have l6 := P6.lt
  have l8 := P8.lt
  have l9 := P9.lt
  go_wp2_with (go_at_call 14; refine (num_any _ _).mono ?_; rintro e w' ⟨rfl, rfl⟩)
  have bb := (Below.refl V9.heap.size V9).alloc (Nat.le_refl _) (.cells #[.int .i64 1, .int .i64 1, .int .i64 5, .int .i64 1, .int .i64 1, .int .i64 5] 24)
  refine (CA.out _ _ (blk_new V9 [.int .i64 1, .int .i64 1, .int .i64 5, .int .i64 1, .int .i64 1, .int .i64 5] 24).writes).mono ?_
  rintro e V10 ⟨rfl, hb⟩
  replace hb := Below.on bb hb
  clear bb
  replace b2 := Below.on b2 hb
  replace P6 := P6.on hb
  replace P8 := P8.on hb
  replace P9 := P9.on hb
  clear hb CA g0 g1 g2 gf0 gf1 gf2 x0' x1' x2' xf0 xf1 xf2 h0 h1 h2 hf0 hf1 hf2 l6 l8 l9
  obtain ⟨⟨g0, g1, g2⟩, gf0, gf1, gf2⟩ := P6.three
  obtain ⟨⟨x0', x1', x2'⟩, xf0, xf1, xf2⟩ := P8.three
  obtain ⟨⟨h0, h1, h2⟩, hf0, hf1, hf2⟩ := P9.three
  have l6 := P6.lt
  have l8 := P8.lt
  have l9 := P9.lt
  go_wp2_with fail
  refine (CB.out _).mono ?_
  rintro e V11 ⟨rfl, hb⟩
  replace b2 := Below.on b2 hb
  replace P6 := P6.on hb
  replace P8 := P8.on hb
  replace P9 := P9.on hb
  clear hb CB g0 g1 g2 gf0 gf1 gf2 x0' x1' x2' xf0 xf1 xf2 h0 h1 h2 hf0 hf1 hf2 l6 l8 l9
  clear P6 P8 P9
  go_wp2
  go_ret
  exact ⟨rfl, b2⟩

theorem writesetForms_said (hM : MayWC) (hW : WithWC) (hF : FindWC) (hA : AtWC) (a0 a1 : Int) (w : World) :
    Calls Try.prog 5 #[.int .i64 a0, .int .i64 a1] w fun e w' => e = .returned (.bool true) ∧ Below w.heap.size w w' := by
  obtain ⟨p, hp6, hp⟩ := pick_at a0 6 (by omega) (by omega)
  exact writesetForms_at hM hW hF hA a0 a1 (a1 % 1024) p w (mask1023 _) (by omega) (by omega) hp hp6

end Go.Proofs.Ytjnolmpalfjacaa
