/-
  The document's session as it begins, its program nil.
-/
import Derived.Test.YtlaanhkmoficbaaStartRef1
namespace Go.Proofs.Ytlaanhkmoficbaa
open Go.RowKit
set_option linter.unusedSimpArgs false
set_option linter.unusedVariables false

set_option maxRecDepth 100000 in
set_option maxHeartbeats 4000000 in
theorem rnew_none (id l cl : Int) (a : Option Addr) (n c : Nat) (z : Nat → Int) (w : World) (hsa : a = none) (hm : startMay id l cl n z = true) (hn : n * 32 ≤ 140737488351232) (ha : a = none → n = 0 ∧ c = 0) (h : Row w a (n * 4) fun k => .int .i64 (z k)) :
    Calls Try.prog 9 #[startA id l cl (.slice a n c)] w (NewSPost id l cl n z w) := by
  obtain ⟨rfl, rfl⟩ := ha hsa
  subst hsa
  have hb0 : Below w.heap.size w ((w.alloc (.cells (startL id l cl (.slice none 0 0)).toArray 24)).alloc (.cells (sessL (fun _ => 0) (.slice none 0 0) (.slice none 0 0) (.slice none 0 0)).toArray 30)) := ((Below.refl _ w).alloc (Nat.le_refl _) _).alloc (by simp) _
  have B0 := (blk_new w (startL id l cl (.slice none 0 0)) 24).alloc (.cells (sessL (fun _ => 0) (.slice none 0 0) (.slice none 0 0) (.slice none 0 0)).toArray 30)
  have B1 := blk_new (w.alloc (.cells (startL id l cl (.slice none 0 0)).toArray 24)) (sessL (fun _ => 0) (.slice none 0 0) (.slice none 0 0) (.slice none 0 0)) 30
  rw [World.size_alloc] at B1
  have C := hide (rstartMay_any id l cl none 0 0 z _ (by omega) (h.below hb0 (Nat.le_refl _)))
  rw [hm] at C
  unfold startA at *
  go_enter Try.func9, Try.ntmps9
  go_wp2_with fail
  refine C.out.mono ?_
  rintro e w1 ⟨rfl, hb⟩
  have b1 : Below w.heap.size w w1 := Below.on hb0 hb
  replace B1 := B1.on hb
  replace B0 := B0.on hb
  have hs : w.heap.size + 1 + 1 ≤ w1.heap.size := by have := hb.size; simp only [World.size_alloc] at this; omega
  have R1 := hide (h.below b1 (Nat.le_refl _))
  have HA := hide ha
  have HB0 := hide B0
  have HB1 := hide B1
  clear C hb hb0 h B0 B1
  have ff := HB1.out.frozen
  obtain ⟨c0, c1, c2, c3⟩ := HB0.out.start
  obtain ⟨d0, d1, d2, d3, d4, d5, d6, d7, d8, d9, d10, d11, d12, d13, d14, d15, d16⟩ := HB1.out.sess
  have y0 := HB0.out.lt
  have y1 := HB1.out.lt
  clear ha R1 HA
  go_upto_region 3 with (fail)
  go_region_held3 (fun w' => w'.cell? ⟨w.heap.size, 0, none⟩ = some (.int .i64 id) ∧ w'.cell? ⟨w.heap.size, 1, none⟩ = some (.int .i64 l) ∧ w'.cell? ⟨w.heap.size, 2, none⟩ = some (.int .i64 cl) ∧ w'.cell? ⟨w.heap.size, 3, none⟩ = some (.slice none 0 0))
    (first | (refine ⟨?_, ?_, ?_, ?_⟩ <;> with_reducible assumption) | (refine ⟨?_, ?_, ?_, ?_⟩ <;> (with_reducible refine (far17 _ _ _ _ _ _ _ _ _ _ _ _ _ _ _ _ _ _ _ _ _ (Nat.ne_of_gt (Nat.lt_succ_self _))).trans ?_; simp [*, World.cell?_alloc_some])) | go_keep)
    (fail)
  have BW : Hid (Blk ((World.laySess w1 (w.heap.size + 1) (newI true id l cl) (.slice (some ⟨w1.heap.size, 0, none⟩) 0 0) (.slice none 0 0) (.slice none 0 0)).alloc (.cells #[] 43)).drew (w.heap.size + 1) (sessL (newI true id l cl) (.slice (some ⟨w1.heap.size, 0, none⟩) 0 0) (.slice none 0 0) (.slice none 0 0))) := ((HB1.out.laySess _ _ _ _).alloc _).drew
  have b3 : Below w.heap.size w ((World.laySess w1 (w.heap.size + 1) (newI true id l cl) (.slice (some ⟨w1.heap.size, 0, none⟩) 0 0) (.slice none 0 0) (.slice none 0 0)).alloc (.cells #[] 43)).drew := ((Below.laySess b1 (Nat.le_succ _) _ _ _ _).alloc (by rw [size_laySess]; exact b1.size) _).drew
  refine (show Exit.then _ _ Exit.normal _ ((World.laySess w1 (w.heap.size + 1) (newI true id l cl) (.slice (some ⟨w1.heap.size, 0, none⟩) 0 0) (.slice none 0 0) (.slice none 0 0)).alloc (.cells #[] 43)).drew from ?_)
  clear d0 d1 d2 d3 d4 d5 d6 d7 d8 d9 d10 d11 d12 d13 d14 d15 d16 ff c0 c1 c2 c3 HB0 HB1 y0 y1
  generalize ((World.laySess w1 (w.heap.size + 1) (newI true id l cl) (.slice (some ⟨w1.heap.size, 0, none⟩) 0 0) (.slice none 0 0) (.slice none 0 0)).alloc (.cells #[] 43)).drew = W at *
  go_wp2
  exact bodyPost_ret (ret_sess Try.results9 BW.out rfl rfl) rfl (newS_yes hm (some ⟨w1.heap.size, 0, none⟩) 0 _ (fun _ => rfl) (fun h => by cases h) (row_zero _ _ _) (fun h => absurd h (Nat.lt_irrefl 0)) b3)

end Go.Proofs.Ytlaanhkmoficbaa
