/-
  The law Writesets, if package writeset's functions keep their statements.
-/
import Derived.Test.YtjnolmpalfjacaaWritesAwake
import Derived.Deep.Cut
namespace Go.Proofs.Ytjnolmpalfjacaa
open Go.RowKit
set_option linter.unusedSimpArgs false
set_option linter.unusedVariables false

theorem lentW_cells {w : World} {g n : Nat} {z : Nat → Int} (h : Own w g ((n + 2) * 3) (intF (lentW z n))) : Row w (some ⟨g, 0, none⟩) (n * 3) fun i => .int .i64 (z i) :=
  (h.row.less (by omega)).congr fun i hi => by unfold intF lentW; rw [if_pos hi]

set_option maxRecDepth 100000 in
set_option maxHeartbeats 4000000 in
theorem writesets_said (hM : MayWC) (hW : WithWC) (hF : FindWC) (hA : AtWC) (a : Option Addr) (n c : Nat) (z : Nat → Int) (l i v lv ix : Int) (w : World) (hn : n * 24 ≤ 140737488351232) (hc : n ≤ c) (ha : a = none → n = 0 ∧ c = 0) (h : Row w a (n * 3) fun i => .int .i64 (z i)) :
    Calls Try.prog 3 #[.slice a n c, wordA l i v, .int .i64 lv, .int .i64 ix] w fun e w' => e = .returned (.bool true) ∧ Below w.heap.size w w' := by
  have C0 := hide fun w => awake10_any hM hW hF hA w
  have CW1 := hide fun g cap w h => (hW (some ⟨g, 0, none⟩) n (cap + (n + 2)) z l i v w (by omega) (by omega) (fun e => by cases e) h).mono fun _ _ h => withW_any h
  have CW2 := hide fun w h => (rwithWrite_any a n c z l i v w (by omega) ha h).mono fun _ _ h => withW_any h
  have CF1 := hide fun g cap w h => hF (some ⟨g, 0, none⟩) n (cap + (n + 2)) z lv ix w (by omega) (by omega) (fun e => by cases e) h
  have CF2 := hide fun w h => rfindWrite_any a n c z lv ix w (by omega) h
  have CA1 := hide fun g cap w h => hA (some ⟨g, 0, none⟩) n (cap + (n + 2)) z lv w (by omega) (by omega) h
  have CA2 := hide fun w h => rwritesAt_any a n c z lv w (by omega) h
  have CM1 := hide fun g cap w h => hM (some ⟨g, 0, none⟩) n (cap + (n + 2)) z w (by omega) (by omega) h
  have CM2 := hide fun w h => rwritesMay_any a n c z w (by omega) h
  have CL := hide fun w h => lendWrites_any a n c z w hn ha h
  have n1 : withWN n z l i v ≤ 16 := by
    cases e : withWOk n z l i v
    · unfold withWN; rw [e]; exact Nat.zero_le _
    · have := (writesMay_get (withWOk_get e).1).ins (withWOk_get e).2
      unfold withWN; rw [e]; exact this.few
  have b0 : Below w.heap.size w (w.alloc (.cells #[.int .i64 l, .int .i64 i, .int .i64 v] 24)) := by go_grown
  have P := blk_new w [.int .i64 l, .int .i64 i, .int .i64 v] 24
  have HH := hide h
  clear h ha hM hW hF hA
  generalize withWN n z l i v = N, withWE n z l i v = E, withWZ n z l i v = z' at *
  generalize findVal n z lv ix = fv, findIs n z lv ix = fi at *
  generalize atW n z lv = av, writesMay n z = mv at *
  unfold wordA at *
  go_enter Try.func3, Try.ntmps3
  go_wp2_with fail
  change Blk (w.alloc (.cells #[.int .i64 l, .int .i64 i, .int .i64 v] 24)) _ _ at P
  have s0 := P.lt
  generalize w.alloc (.cells #[.int .i64 l, .int .i64 i, .int .i64 v] 24) = w0 at *
  refine (CL.out _ (HH.out.below b0 (Nat.le_refl _))).mono ?_
  rintro e w1 ⟨g, cap0, rfl, hg, hcap, O, hb⟩
  obtain ⟨cap, rfl⟩ : ∃ cap, cap0 = cap + (n + 2) := ⟨cap0 - (n + 2), by omega⟩
  have HO := hide O
  have b1 := Below.on b0 hb
  replace P := P.on hb
  have g1 := O.lt
  clear hb O b0 CL
  obtain ⟨⟨e0, e1, e2⟩, ef0, ef1, ef2⟩ := P.three
  go_wp2_with fail
  refine (CW1.out g cap _ (lentW_cells HO.out)).mono ?_
  rintro e w2 ⟨xa, xc, rfl, _, _, XR, XO, hb⟩
  replace P := P.on hb
  replace HO := hide (HO.out.on hb)
  have b2 := Below.on b1 hb
  have HXR := hide XR
  have HXO := hide XO
  have w1s := hb.size
  clear hb b1 CW1 XR XO e0 e1 e2 ef0 ef1 ef2
  obtain ⟨⟨e0, e1, e2⟩, ef0, ef1, ef2⟩ := P.three
  go_wp2_with fail
  refine (CW2.out _ (HH.out.below b2 (Nat.le_refl _))).mono ?_
  rintro e w3 ⟨ya, yc, rfl, _, _, YR, _, hb⟩
  replace HO := hide (HO.out.on hb)
  have b3 := Below.on b2 hb
  have HYR := hide YR
  replace HXR := hide (HXR.out.below hb (Nat.le_refl _))
  replace HXO : Hid (0 < N → ∃ b, xa = some ⟨b, 0, none⟩ ∧ w1.heap.size ≤ b ∧ Own w3 b (N * 3) (intF z')) := fun hp => by
    obtain ⟨b, x1, x2, _, x4⟩ := HXO.out hp
    exact ⟨b, x1, x2, x4.on hb⟩
  clear hb b2 CW2 YR e0 e1 e2 ef0 ef1 ef2 P
  go_wp2_with fail
  refine (CF1.out g cap _ (lentW_cells HO.out)).mono ?_
  rintro e w4 ⟨rfl, hb⟩
  replace HO := hide (HO.out.on hb)
  have b4 := Below.on b3 hb
  replace HYR := hide (HYR.out.below hb (Nat.le_refl _))
  replace HXR := hide (HXR.out.below hb (Nat.le_refl _))
  replace HXO : Hid (0 < N → ∃ b, xa = some ⟨b, 0, none⟩ ∧ w1.heap.size ≤ b ∧ Own w4 b (N * 3) (intF z')) := fun hp => by
    obtain ⟨b, x1, x2, x4⟩ := HXO.out hp
    exact ⟨b, x1, x2, x4.on hb⟩
  clear hb b3 CF1
  go_wp2_with fail
  refine (CF2.out _ (HH.out.below b4 (Nat.le_refl _))).mono ?_
  rintro e w5 ⟨rfl, q5, rfl⟩
  have hb : Below w4.heap.size w4 (w4.drewN q5) := Below.drawn (Below.refl _ _) q5
  replace HO := hide (HO.out.on hb)
  have b5 := Below.on b4 hb
  replace HYR := hide (HYR.out.below hb (Nat.le_refl _))
  replace HXR := hide (HXR.out.below hb (Nat.le_refl _))
  replace HXO : Hid (0 < N → ∃ b, xa = some ⟨b, 0, none⟩ ∧ w1.heap.size ≤ b ∧ Own (w4.drewN q5) b (N * 3) (intF z')) := fun hp => by
    obtain ⟨b, x1, x2, x4⟩ := HXO.out hp
    exact ⟨b, x1, x2, x4.on hb⟩
  clear hb b4 CF2
  generalize w4.drewN q5 = w5 at *
  have CS : Hid (Calls Try.prog 13 #[.slice xa N xc, .slice ya N yc] w5 fun e w' => e = .returned (.bool true) ∧ ∃ q, w' = w5.drewN q) := by
    have := sameWrites_any xa ya N xc N yc z' z' w5 (by omega) HXR.out HYR.out
    rw [eqTo_mk fun _ _ => rfl, decide_eq_true rfl] at this
    exact this
  clear HYR HXR
  go_wp2_with fail
  refine CS.out.mono ?_
  rintro e w6 ⟨rfl, q6, rfl⟩
  have hb : Below w5.heap.size w5 (w5.drewN q6) := Below.drawn (Below.refl _ _) q6
  replace HO := hide (HO.out.on hb)
  have b6 := Below.on b5 hb
  replace HXO : Hid (0 < N → ∃ b, xa = some ⟨b, 0, none⟩ ∧ w1.heap.size ≤ b ∧ Own (w5.drewN q6) b (N * 3) (intF z')) := fun hp => by
    obtain ⟨b, x1, x2, x4⟩ := HXO.out hp
    exact ⟨b, x1, x2, x4.on hb⟩
  clear hb b5 CS
  generalize w5.drewN q6 = w6 at *
  go_wp2_with (go_at_call 14; refine (num_any _ _).mono ?_; rintro e w' ⟨rfl, rfl⟩)
  refine (CA1.out g cap _ (lentW_cells HO.out)).mono ?_
  rintro e w7 ⟨rfl, hb⟩
  replace HO := hide (HO.out.on hb)
  have b7 := Below.on b6 hb
  replace HXO : Hid (0 < N → ∃ b, xa = some ⟨b, 0, none⟩ ∧ w1.heap.size ≤ b ∧ Own w7 b (N * 3) (intF z')) := fun hp => by
    obtain ⟨b, x1, x2, x4⟩ := HXO.out hp
    exact ⟨b, x1, x2, x4.on hb⟩
  clear hb b6 CA1
  go_wp2_with fail
  refine (CA2.out _ (HH.out.below b7 (Nat.le_refl _))).mono ?_
  rintro e w8 ⟨rfl, q8, rfl⟩
  have hb : Below w7.heap.size w7 (w7.drewN q8) := Below.drawn (Below.refl _ _) q8
  replace HO := hide (HO.out.on hb)
  have b8 := Below.on b7 hb
  replace HXO : Hid (0 < N → ∃ b, xa = some ⟨b, 0, none⟩ ∧ w1.heap.size ≤ b ∧ Own (w7.drewN q8) b (N * 3) (intF z')) := fun hp => by
    obtain ⟨b, x1, x2, x4⟩ := HXO.out hp
    exact ⟨b, x1, x2, x4.on hb⟩
  clear hb b7 CA2
  generalize w7.drewN q8 = w8 at *
  go_wp2_with fail
  refine (CM1.out g cap _ (lentW_cells HO.out)).mono ?_
  rintro e w9 ⟨rfl, hb⟩
  replace HO := hide (HO.out.on hb)
  have b9 := Below.on b8 hb
  replace HXO : Hid (0 < N → ∃ b, xa = some ⟨b, 0, none⟩ ∧ w1.heap.size ≤ b ∧ Own w9 b (N * 3) (intF z')) := fun hp => by
    obtain ⟨b, x1, x2, x4⟩ := HXO.out hp
    exact ⟨b, x1, x2, x4.on hb⟩
  clear hb b8 CM1
  go_wp2_with fail
  refine (CM2.out _ (HH.out.below b9 (Nat.le_refl _))).mono ?_
  rintro e wA ⟨rfl, qA, rfl⟩
  have hb : Below w9.heap.size w9 (w9.drewN qA) := Below.drawn (Below.refl _ _) qA
  replace HO := hide (HO.out.on hb)
  have bA := Below.on b9 hb
  replace HXO : Hid (0 < N → ∃ b, xa = some ⟨b, 0, none⟩ ∧ w1.heap.size ≤ b ∧ Own (w9.drewN qA) b (N * 3) (intF z')) := fun hp => by
    obtain ⟨b, x1, x2, x4⟩ := HXO.out hp
    exact ⟨b, x1, x2, x4.on hb⟩
  clear hb b9 CM2
  generalize w9.drewN qA = wA at *
  have sA : w.heap.size ≤ wA.heap.size := bA.size
  have HSP : Hid (Calls Try.prog 19 #[.slice xa N xc] wA fun e w' => e = .returned (.tuple #[]) ∧ ∃ bx, w1.heap.size ≤ bx ∧ Touch bx (bx + 1) wA w') := by
    by_cases hp : 0 < N
    · obtain ⟨b, rfl, x2, x4⟩ := HXO.out hp
      exact (spoilWrites_any b N xc z' wA (by omega) x4).mono fun e w' ⟨he, _, ht, _⟩ => ⟨he, b, x2, ht⟩
    · obtain rfl : N = 0 := by omega
      exact (spoilWrites_none xa xc wA).mono fun e w' ⟨he, hm⟩ => ⟨he, w1.heap.size, Nat.le_refl _, hm ▸ Touch.refl _ _ _⟩
  clear HXO
  go_wp2_with fail
  refine HSP.out.mono ?_
  rintro e wB ⟨rfl, bx, hbx, ht⟩
  replace HO := hide (HO.out.touch ht (.inl (by omega)))
  have bB : Below w.heap.size w wB := bA.trans ⟨ht.os, ht.tape, ht.output, ht.size, fun k hk => ht.block k (.inl (by omega)) (by omega)⟩
  clear ht HSP bA
  go_wp2_with fail
  refine (keptWrites_yes g (cap + (n + 2)) a n c z wB hn (by omega) HO.out (HH.out.below bB (Nat.le_refl _))).mono ?_
  rintro e wC ⟨rfl, qC, rfl⟩
  have bC := Below.drawn bB qC
  clear HO bB
  generalize wB.drewN qC = wC at *
  go_wp2_with fail
  refine (C0.out _).mono ?_
  rintro e wD ⟨rfl, hb⟩
  have bD := Below.on bC hb
  clear hb bC C0
  go_wp2
  go_ret
  exact ⟨rfl, bD⟩

end Go.Proofs.Ytjnolmpalfjacaa
