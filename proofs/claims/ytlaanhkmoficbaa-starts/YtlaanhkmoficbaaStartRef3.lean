/-
  The document's session as it begins, its program a list.
-/
import Derived.Test.YtlaanhkmoficbaaStartRef1
namespace Go.Proofs.Ytlaanhkmoficbaa
open Go.RowKit
set_option linter.unusedSimpArgs false
set_option linter.unusedVariables false

set_option maxRecDepth 100000 in
set_option maxHeartbeats 4000000 in
theorem rnew_some (id l cl : Int) (a : Option Addr) (n c : Nat) (z : Nat → Int) (w : World) (ad : Addr) (hsa : a = some ad) (hm : startMay id l cl n z = true) (hn : n * 32 ≤ 140737488351232) (ha : a = none → n = 0 ∧ c = 0) (h : Row w a (n * 4) fun k => .int .i64 (z k)) :
    Calls Try.prog 9 #[startA id l cl (.slice a n c)] w (NewSPost id l cl n z w) := by
  subst hsa
  obtain ⟨i0, hi, hz0, hz1, hz2⟩ := info_parts Try.infoInst
  have hb0 : Below w.heap.size w ((w.alloc (.cells (startL id l cl (.slice (some ad) n c)).toArray 24)).alloc (.cells (sessL (fun _ => 0) (.slice none 0 0) (.slice none 0 0) (.slice none 0 0)).toArray 30)) := ((Below.refl _ w).alloc (Nat.le_refl _) _).alloc (by simp) _
  have B0 := (blk_new w (startL id l cl (.slice (some ad) n c)) 24).alloc (.cells (sessL (fun _ => 0) (.slice none 0 0) (.slice none 0 0) (.slice none 0 0)).toArray 30)
  have B1 := blk_new (w.alloc (.cells (startL id l cl (.slice (some ad) n c)).toArray 24)) (sessL (fun _ => 0) (.slice none 0 0) (.slice none 0 0) (.slice none 0 0)) 30
  rw [World.size_alloc] at B1
  have C := hide (rstartMay_any id l cl (some ad) n c z _ (by omega) (h.below hb0 (Nat.le_refl _)))
  rw [hm] at C
  unfold startA at *
  go_enter Try.func9, Try.ntmps9
  go_wp2_with fail
  refine C.out.mono ?_
  rintro e w1 ⟨rfl, hb⟩
  have b1 : Below w.heap.size w w1 := Below.on hb0 hb
  replace B1 := B1.on hb
  replace B0 := B0.on hb
  have hs : w.heap.size + 1 + 1 ≤ w1.heap.size := by have := hb.size; simp only [World.size_alloc] at this; omega
  have R1 := hide (h.below b1 (Nat.le_refl _))
  have HA := hide ha
  have HB0 := hide B0
  have HB1 := hide B1
  clear C hb hb0 h B0 B1
  have HO : Hid (((w1.alloc (.cells #[] 43)).drew).ownsRow w1.heap.size 43 4 (.slice (some ⟨w1.heap.size, 0, none⟩) 0 0) 0 []) := (World.ownsRow_made w1 #[] 0 (Nat.le_refl _) (by decide) rfl).drew
  have HR := hide (R1.out.below ((Below.refl w1.heap.size w1).alloc (Nat.le_refl _) (.cells #[] 43)) (Nat.le_refl _)).news
  have HL := hide (rowL_len (intF z) (n * 4))
  have H1 := hide (rowL_one (f := intF z) (m := n * 4) fun _ _ => rfl)
  obtain ⟨c0, c1, c2, c3⟩ := HB0.out.start
  have y0 := HB0.out.lt
  clear ha R1 HA
  go_upto_region 3 with (fail)
  go_region_held3 (fun w' => w'.cell? ⟨w.heap.size, 0, none⟩ = some (.int .i64 id) ∧ w'.cell? ⟨w.heap.size, 1, none⟩ = some (.int .i64 l) ∧ w'.cell? ⟨w.heap.size, 2, none⟩ = some (.int .i64 cl) ∧ w'.cell? ⟨w.heap.size, 3, none⟩ = some (.slice (some ad) n c))
    (first | (refine ⟨?_, ?_, ?_, ?_⟩ <;> with_reducible assumption) | (refine ⟨?_, ?_, ?_, ?_⟩ <;> (with_reducible refine (far17 _ _ _ _ _ _ _ _ _ _ _ _ _ _ _ _ _ _ _ _ _ (Nat.ne_of_gt (Nat.lt_succ_self _))).trans ?_; with_reducible assumption)) | go_keep)
    ((refine step_append_own (by rfl) _ _ _ (by rfl) w1.heap.size 43 i0 _ 4 32 Try.underlying22 hi hz0 hz1 hz2 rfl (by omega) (.slice (some ⟨w1.heap.size, 0, none⟩) 0 0) 0 [] (by rfl) HO.out ad n c (rowL (intF z) (n * 4)) (by rfl) HL.out HR.out H1.out (by unfold maxLen; omega) (by omega) (by simp) ?_; intro v' w2 hown hg _; obtain ⟨a', c', rfl, _, ha', R2, O2⟩ := slice_of_owns (f := intF z) (w := w2) (base := w1.heap.size) (e := 43) (k := 4) (n := n) (v := v') (by have h := hown; try simp at h; exact h); have bg : Below w1.heap.size w1 w2 := (((Below.refl _ w1).alloc (Nat.le_refl _) _).drew).grown hg (by simp) (by intro j hj; simp [Value.ownBlock] at hj; omega); have B0 := HB0.out.on bg; have B1 := HB1.out.on bg; have ff := B1.frozen; obtain ⟨e0, e1, e2, e3⟩ := B0.start; obtain ⟨d0, d1, d2, d3, d4, d5, d6, d7, d8, d9, d10, d11, d12, d13, d14, d15, d16⟩ := B1.sess; replace R2 := hide R2; replace O2 := hide O2; replace ha' := hide ha'; replace bg := hide bg; replace B1 := hide B1; clear hown hg B0))
  have BW := hide (B1.out.laySess (newI true id l cl) (.slice a' n c') (.slice none 0 0) (.slice none 0 0))
  have TW := Touch.laySess w2 (w.heap.size + 1) (newI true id l cl) (.slice a' n c') (.slice none 0 0) (.slice none 0 0)
  have sW := size_laySess w2 (w.heap.size + 1) (newI true id l cl) (.slice a' n c') (.slice none 0 0) (.slice none 0 0)
  refine (show Exit.then _ _ Exit.normal _ (World.laySess w2 (w.heap.size + 1) (newI true id l cl) (.slice a' n c') (.slice none 0 0) (.slice none 0 0)) from ?_)
  clear e0 e1 e2 e3 d0 d1 d2 d3 d4 d5 d6 d7 d8 d9 d10 d11 d12 d13 d14 d15 d16 ff c0 c1 c2 c3 HB0 HB1 HO HR HL H1 B1 hi hz0 hz1 hz2
  generalize World.laySess w2 (w.heap.size + 1) (newI true id l cl) (.slice a' n c') (.slice none 0 0) (.slice none 0 0) = W at *
  have s2 := bg.out.size
  have b3 : Below w.heap.size w W := (b1.trans (bg.out.mono b1.size)).trans ((TW.below (by omega)).mono (by omega))
  have R3 : Hid (Row W a' (n * 4) (intF z)) := by
    by_cases h0 : 0 < n
    · obtain ⟨b, rfl, h1, _, ho⟩ := O2.out h0
      exact (ho.touch TW (.inr (by omega))).row
    · rw [show n = 0 by omega, Nat.zero_mul]; exact row_zero _ _ _
  have O3 : Hid (0 < n → ∃ b, a' = some ⟨b, 0, none⟩ ∧ w.heap.size ≤ b ∧ b < W.heap.size ∧ Own W b (n * 4) (intF z)) := fun h0 => by
    obtain ⟨b, e, h1, h2, ho⟩ := O2.out h0
    exact ⟨b, e, by omega, by omega, ho.touch TW (.inr (by omega))⟩
  clear b1 TW sW hs O2 R2 s2 bg
  go_wp2
  exact bodyPost_ret (ret_sess Try.results9 BW.out rfl rfl) rfl (newS_yes hm a' c' _ (fun _ => rfl) ha'.out R3.out O3.out b3)

end Go.Proofs.Ytlaanhkmoficbaa
