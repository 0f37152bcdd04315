/-
  The law StartForms, if package start's functions keep their statements: its ways 3, 4, 5.
-/
import Derived.Test.YtlaanhkmoficbaaStartAwake
import Derived.Test.YtlaanhkmoficbaaPlain
namespace Go.Proofs.Ytlaanhkmoficbaa
open Go.RowKit
set_option linter.unusedSimpArgs false
set_option linter.unusedVariables false

set_option maxRecDepth 100000 in
set_option maxHeartbeats 4000000 in
theorem startForms_3 (hM : MaySC) (hN : NewSC) (a0 a1 r : Int) (w : World) (hd : bits .and .i64 a1 1023 = r) (r0 : 0 ≤ r) (r1 : r ≤ 1023) (hp : (IntKind.u64.wrap a0).tmod 10 = 3) :
    Calls Try.prog 4 #[.int .i64 a0, .int .i64 a1] w fun e w' => e = .returned (.bool true) ∧ Below w.heap.size w w' := by
  have v0 : IntKind.i64.wrap (-(1 + r)) = -(1 + r) := IntWalk.i64_in _ ⟨by omega, by omega⟩
  have v1 : IntKind.i64.wrap (254 + (1 + r)) = 254 + (1 + r) := IntWalk.i64_in _ ⟨by omega, by omega⟩
  have v2 : IntKind.i64.wrap (3 + (1 + r)) = 3 + (1 + r) := IntWalk.i64_in _ ⟨by omega, by omega⟩
  have v3 : IntKind.i64.wrap (16 + (1 + r)) = 16 + (1 + r) := IntWalk.i64_in _ ⟨by omega, by omega⟩
  have v4 : IntKind.i64.wrap (1 + r) = 1 + r := IntWalk.i64_in _ ⟨by omega, by omega⟩
  have HM0 : startMay 3 (3 + (1 + r)) 3 1 (oneI 5 0 0 0) = false := by
    unfold startMay; rw [belowV_no1 (noLab_of fun h => by unfold Lab at h; omega), Bool.false_and, Bool.and_false]
  have HM := hide HM0
  clear HM0
  have C0 := hide fun w => awake11_any hM hN w
  have C1 := hide fun w b h => (hN 3 (3 + (1 + r)) 3 (some ⟨b, 0, none⟩) 1 1 (oneI 5 0 0 0) w (by omega) (fun h => by cases h) h).mono fun _ _ h => newS_any h
  have C2 := hide fun w b h => hM 3 1 3 (some ⟨b, 0, none⟩) 1 1 (oneI 5 0 0 0) w (by omega) h
  have C3 := hide fun w b h => hM 3 (3 + (1 + r)) 3 (some ⟨b, 0, none⟩) 1 1 (oneI 5 0 0 0) w (by omega) h
  rw [show startMay 3 1 3 1 (oneI 5 0 0 0) = true by kernel_rfl] at C2
  rw [HM.out] at C1 C3
  simp only [newE, newN, cond_false] at C1
  unfold startA at C1 C2 C3
  clear hM hN HM
  go_enter Try.func4, Try.ntmps4
  go_wp2_with fail
  refine (C0.out _).mono ?_
  rintro e w1 ⟨rfl, b1⟩
  have s1 := b1.size
  clear C0
  go_upto_region 26 with (fail)
  have b2 : Below w.heap.size w (((w1.alloc (.cells #[.int .i64 5, .int .i64 0, .int .i64 0, .int .i64 0] 43)).alloc (.cells #[.int .i64 3, .int .i64 1, .int .i64 3, (.slice (some ⟨w1.heap.size, 0, none⟩) 1 1)] 24)).alloc (.cells #[.int .i64 3, .int .i64 (3 + (1 + r)), .int .i64 3, (.slice (some ⟨w1.heap.size, 0, none⟩) 1 1)] 24)) := (((b1.alloc s1 _).alloc (by simp; omega) _).alloc (by simp; omega) _)
  have P5 : Blk (((w1.alloc (.cells #[.int .i64 5, .int .i64 0, .int .i64 0, .int .i64 0] 43)).alloc (.cells #[.int .i64 3, .int .i64 1, .int .i64 3, (.slice (some ⟨w1.heap.size, 0, none⟩) 1 1)] 24)).alloc (.cells #[.int .i64 3, .int .i64 (3 + (1 + r)), .int .i64 3, (.slice (some ⟨w1.heap.size, 0, none⟩) 1 1)] 24)) w1.heap.size [.int .i64 5, .int .i64 0, .int .i64 0, .int .i64 0] := ((blk_new w1 _ 43).alloc _).alloc _
  have P6 : Blk (((w1.alloc (.cells #[.int .i64 5, .int .i64 0, .int .i64 0, .int .i64 0] 43)).alloc (.cells #[.int .i64 3, .int .i64 1, .int .i64 3, (.slice (some ⟨w1.heap.size, 0, none⟩) 1 1)] 24)).alloc (.cells #[.int .i64 3, .int .i64 (3 + (1 + r)), .int .i64 3, (.slice (some ⟨w1.heap.size, 0, none⟩) 1 1)] 24)) (w1.heap.size + 1) (startL 3 1 3 (.slice (some ⟨w1.heap.size, 0, none⟩) 1 1)) := by
    have := (blk_new (w1.alloc (.cells #[.int .i64 5, .int .i64 0, .int .i64 0, .int .i64 0] 43)) (startL 3 1 3 (.slice (some ⟨w1.heap.size, 0, none⟩) 1 1)) 24).alloc (.cells #[.int .i64 3, .int .i64 (3 + (1 + r)), .int .i64 3, (.slice (some ⟨w1.heap.size, 0, none⟩) 1 1)] 24)
    rw [World.size_alloc] at this
    exact this
  have P7 : Blk (((w1.alloc (.cells #[.int .i64 5, .int .i64 0, .int .i64 0, .int .i64 0] 43)).alloc (.cells #[.int .i64 3, .int .i64 1, .int .i64 3, (.slice (some ⟨w1.heap.size, 0, none⟩) 1 1)] 24)).alloc (.cells #[.int .i64 3, .int .i64 (3 + (1 + r)), .int .i64 3, (.slice (some ⟨w1.heap.size, 0, none⟩) 1 1)] 24)) (w1.heap.size + 1 + 1) (startL 3 (3 + (1 + r)) 3 (.slice (some ⟨w1.heap.size, 0, none⟩) 1 1)) := by
    have := blk_new ((w1.alloc (.cells #[.int .i64 5, .int .i64 0, .int .i64 0, .int .i64 0] 43)).alloc (.cells #[.int .i64 3, .int .i64 1, .int .i64 3, (.slice (some ⟨w1.heap.size, 0, none⟩) 1 1)] 24)) (startL 3 (3 + (1 + r)) 3 (.slice (some ⟨w1.heap.size, 0, none⟩) 1 1)) 24
    rw [World.size_alloc, World.size_alloc] at this
    exact this
  have P8 := P5.inst
  replace b2 := hide b2
  replace P5 := hide P5.inst
  replace P6 := hide P6
  replace P7 := hide P7
  replace P8 := hide P8
  change Hid (Below w.heap.size w (((w1.alloc (.cells #[.int .i64 5, .int .i64 0, .int .i64 0, .int .i64 0] 43)).alloc (.cells #[.int .i64 3, .int .i64 1, .int .i64 3, (.slice (some ⟨w1.heap.size, 0, none⟩) 1 1)] 24)).alloc (.cells #[.int .i64 3, .int .i64 (3 + (1 + r)), .int .i64 3, (.slice (some ⟨w1.heap.size, 0, none⟩) 1 1)] 24))) at b2
  unfold startL at *
  generalize (((w1.alloc (.cells #[.int .i64 5, .int .i64 0, .int .i64 0, .int .i64 0] 43)).alloc (.cells #[.int .i64 3, .int .i64 1, .int .i64 3, (.slice (some ⟨w1.heap.size, 0, none⟩) 1 1)] 24)).alloc (.cells #[.int .i64 3, .int .i64 (3 + (1 + r)), .int .i64 3, (.slice (some ⟨w1.heap.size, 0, none⟩) 1 1)] 24)) = W at *
  clear b1 s1 hp hd v0 v1 v2 v3 v4
  generalize w1.heap.size = B at *
  clear w1
  obtain ⟨e0, e1, e2, e3⟩ := P7.out.start
  go_wp2_with fail
  refine (C1.out _ _ P8.out).mono ?_
  rintro e w2 ⟨a2, c2, rfl, _, _, hb⟩
  have b3 := hide (Below.on b2.out hb)
  replace P5 := hide (P5.out.below hb (Nat.le_refl _))
  replace P6 := hide (P6.out.on hb)
  replace P7 := hide (P7.out.on hb)
  replace P8 := hide (P8.out.below hb (Nat.le_refl _))
  clear hb b2 C1 e0 e1 e2 e3
  go_wp2_with (first | (refine wpList_store_all rfl 30 (.tmp 8) (.tmp 70) rfl _ _ (sessL (fun _ => 0) (.slice a2 0 c2) (.slice none 0 0) (.slice none 0 0)) rfl rfl (blk_new _ (sessL (fun _ => 0) (.slice none 0 0) (.slice none 0 0) (.slice none 0 0)) 30) rfl Try.sizeSess rfl ?_; intro W' BW TW _; have bt := made_touch TW; have b4 := hide (Below.on b3.out bt); replace P5 := hide (P5.out.below bt (Nat.le_refl _)); replace P8 := hide (P8.out.below bt (Nat.le_refl _)); replace P6 := hide (P6.out.on bt); replace P7 := hide (P7.out.on bt); replace BW := hide BW; clear bt TW b3; obtain ⟨e0, e1, e2, e3⟩ := P6.out.start))
  refine (C2.out _ _ P5.out).mono ?_
  rintro e w3 ⟨rfl, hb⟩
  have b5 := hide (Below.on b4.out hb)
  replace P7 := hide (P7.out.on hb)
  replace P8 := hide (P8.out.below hb (Nat.le_refl _))
  replace BW := hide (BW.out.on hb)
  clear hb b4 C2 P5 P6 e0 e1 e2 e3
  obtain ⟨e0, e1, e2, e3⟩ := P7.out.start
  go_wp2_with fail
  refine (C3.out _ _ P8.out).mono ?_
  rintro e w4 ⟨rfl, hb⟩
  have b6 := hide (Below.on b5.out hb)
  replace BW := hide (BW.out.on hb)
  clear hb b5 C3 P7 P8 e0 e1 e2 e3
  go_wp2_with (refine wpList_load_sess rfl (.tmp 8) rfl _ rfl BW.out ?_)
  refine (sameSession_yes (fun _ => 0) a2 none none none none none 0 c2 0 0 0 0 0 0 0 (fun _ => 0) (fun _ => 0) (fun _ => 0) _ (by omega) (by omega) (by omega) (row_zero _ _ _) (row_zero _ _ _) (row_zero _ _ _) (row_zero _ _ _) (row_zero _ _ _) (row_zero _ _ _)).mono ?_
  rintro e w5 ⟨rfl, hb⟩
  have b7 := hide (Below.on b6.out hb)
  clear hb b6 BW
  go_wp2_with (go_at_call 11; refine (num_any _ _).mono ?_; rintro e w' ⟨rfl, rfl⟩)
  go_ret
  exact ⟨rfl, b7.out⟩

set_option maxRecDepth 100000 in
set_option maxHeartbeats 4000000 in
theorem startForms_4 (hM : MaySC) (hN : NewSC) (a0 a1 r : Int) (w : World) (hd : bits .and .i64 a1 1023 = r) (r0 : 0 ≤ r) (r1 : r ≤ 1023) (hp : (IntKind.u64.wrap a0).tmod 10 = 4) :
    Calls Try.prog 4 #[.int .i64 a0, .int .i64 a1] w fun e w' => e = .returned (.bool true) ∧ Below w.heap.size w w' := by
  have v0 : IntKind.i64.wrap (-(1 + r)) = -(1 + r) := IntWalk.i64_in _ ⟨by omega, by omega⟩
  have v1 : IntKind.i64.wrap (254 + (1 + r)) = 254 + (1 + r) := IntWalk.i64_in _ ⟨by omega, by omega⟩
  have v2 : IntKind.i64.wrap (3 + (1 + r)) = 3 + (1 + r) := IntWalk.i64_in _ ⟨by omega, by omega⟩
  have v3 : IntKind.i64.wrap (16 + (1 + r)) = 16 + (1 + r) := IntWalk.i64_in _ ⟨by omega, by omega⟩
  have v4 : IntKind.i64.wrap (1 + r) = 1 + r := IntWalk.i64_in _ ⟨by omega, by omega⟩
  have HM0 : startMay 3 1 (-(1 + r)) 1 (oneI 5 0 0 0) = false := by
    unfold startMay; rw [belowV_no2 (noLab_of fun h => by unfold Lab at h; omega), Bool.false_and, Bool.and_false]
  have HM := hide HM0
  clear HM0
  have C0 := hide fun w => awake11_any hM hN w
  have C1 := hide fun w b h => (hN 3 1 (-(1 + r)) (some ⟨b, 0, none⟩) 1 1 (oneI 5 0 0 0) w (by omega) (fun h => by cases h) h).mono fun _ _ h => newS_any h
  have C2 := hide fun w b h => hM 3 1 3 (some ⟨b, 0, none⟩) 1 1 (oneI 5 0 0 0) w (by omega) h
  have C3 := hide fun w b h => hM 3 1 (-(1 + r)) (some ⟨b, 0, none⟩) 1 1 (oneI 5 0 0 0) w (by omega) h
  rw [show startMay 3 1 3 1 (oneI 5 0 0 0) = true by kernel_rfl] at C2
  rw [HM.out] at C1 C3
  simp only [newE, newN, cond_false] at C1
  unfold startA at C1 C2 C3
  clear hM hN HM
  go_enter Try.func4, Try.ntmps4
  go_wp2_with fail
  refine (C0.out _).mono ?_
  rintro e w1 ⟨rfl, b1⟩
  have s1 := b1.size
  clear C0
  go_upto_region 26 with (fail)
  have b2 : Below w.heap.size w (((w1.alloc (.cells #[.int .i64 5, .int .i64 0, .int .i64 0, .int .i64 0] 43)).alloc (.cells #[.int .i64 3, .int .i64 1, .int .i64 3, (.slice (some ⟨w1.heap.size, 0, none⟩) 1 1)] 24)).alloc (.cells #[.int .i64 3, .int .i64 1, .int .i64 (-(1 + r)), (.slice (some ⟨w1.heap.size, 0, none⟩) 1 1)] 24)) := (((b1.alloc s1 _).alloc (by simp; omega) _).alloc (by simp; omega) _)
  have P5 : Blk (((w1.alloc (.cells #[.int .i64 5, .int .i64 0, .int .i64 0, .int .i64 0] 43)).alloc (.cells #[.int .i64 3, .int .i64 1, .int .i64 3, (.slice (some ⟨w1.heap.size, 0, none⟩) 1 1)] 24)).alloc (.cells #[.int .i64 3, .int .i64 1, .int .i64 (-(1 + r)), (.slice (some ⟨w1.heap.size, 0, none⟩) 1 1)] 24)) w1.heap.size [.int .i64 5, .int .i64 0, .int .i64 0, .int .i64 0] := ((blk_new w1 _ 43).alloc _).alloc _
  have P6 : Blk (((w1.alloc (.cells #[.int .i64 5, .int .i64 0, .int .i64 0, .int .i64 0] 43)).alloc (.cells #[.int .i64 3, .int .i64 1, .int .i64 3, (.slice (some ⟨w1.heap.size, 0, none⟩) 1 1)] 24)).alloc (.cells #[.int .i64 3, .int .i64 1, .int .i64 (-(1 + r)), (.slice (some ⟨w1.heap.size, 0, none⟩) 1 1)] 24)) (w1.heap.size + 1) (startL 3 1 3 (.slice (some ⟨w1.heap.size, 0, none⟩) 1 1)) := by
    have := (blk_new (w1.alloc (.cells #[.int .i64 5, .int .i64 0, .int .i64 0, .int .i64 0] 43)) (startL 3 1 3 (.slice (some ⟨w1.heap.size, 0, none⟩) 1 1)) 24).alloc (.cells #[.int .i64 3, .int .i64 1, .int .i64 (-(1 + r)), (.slice (some ⟨w1.heap.size, 0, none⟩) 1 1)] 24)
    rw [World.size_alloc] at this
    exact this
  have P7 : Blk (((w1.alloc (.cells #[.int .i64 5, .int .i64 0, .int .i64 0, .int .i64 0] 43)).alloc (.cells #[.int .i64 3, .int .i64 1, .int .i64 3, (.slice (some ⟨w1.heap.size, 0, none⟩) 1 1)] 24)).alloc (.cells #[.int .i64 3, .int .i64 1, .int .i64 (-(1 + r)), (.slice (some ⟨w1.heap.size, 0, none⟩) 1 1)] 24)) (w1.heap.size + 1 + 1) (startL 3 1 (-(1 + r)) (.slice (some ⟨w1.heap.size, 0, none⟩) 1 1)) := by
    have := blk_new ((w1.alloc (.cells #[.int .i64 5, .int .i64 0, .int .i64 0, .int .i64 0] 43)).alloc (.cells #[.int .i64 3, .int .i64 1, .int .i64 3, (.slice (some ⟨w1.heap.size, 0, none⟩) 1 1)] 24)) (startL 3 1 (-(1 + r)) (.slice (some ⟨w1.heap.size, 0, none⟩) 1 1)) 24
    rw [World.size_alloc, World.size_alloc] at this
    exact this
  have P8 := P5.inst
  replace b2 := hide b2
  replace P5 := hide P5.inst
  replace P6 := hide P6
  replace P7 := hide P7
  replace P8 := hide P8
  change Hid (Below w.heap.size w (((w1.alloc (.cells #[.int .i64 5, .int .i64 0, .int .i64 0, .int .i64 0] 43)).alloc (.cells #[.int .i64 3, .int .i64 1, .int .i64 3, (.slice (some ⟨w1.heap.size, 0, none⟩) 1 1)] 24)).alloc (.cells #[.int .i64 3, .int .i64 1, .int .i64 (-(1 + r)), (.slice (some ⟨w1.heap.size, 0, none⟩) 1 1)] 24))) at b2
  unfold startL at *
  generalize (((w1.alloc (.cells #[.int .i64 5, .int .i64 0, .int .i64 0, .int .i64 0] 43)).alloc (.cells #[.int .i64 3, .int .i64 1, .int .i64 3, (.slice (some ⟨w1.heap.size, 0, none⟩) 1 1)] 24)).alloc (.cells #[.int .i64 3, .int .i64 1, .int .i64 (-(1 + r)), (.slice (some ⟨w1.heap.size, 0, none⟩) 1 1)] 24)) = W at *
  clear b1 s1 hp hd v0 v1 v2 v3 v4
  generalize w1.heap.size = B at *
  clear w1
  obtain ⟨e0, e1, e2, e3⟩ := P7.out.start
  go_wp2_with fail
  refine (C1.out _ _ P8.out).mono ?_
  rintro e w2 ⟨a2, c2, rfl, _, _, hb⟩
  have b3 := hide (Below.on b2.out hb)
  replace P5 := hide (P5.out.below hb (Nat.le_refl _))
  replace P6 := hide (P6.out.on hb)
  replace P7 := hide (P7.out.on hb)
  replace P8 := hide (P8.out.below hb (Nat.le_refl _))
  clear hb b2 C1 e0 e1 e2 e3
  go_wp2_with (first | (refine wpList_store_all rfl 30 (.tmp 8) (.tmp 70) rfl _ _ (sessL (fun _ => 0) (.slice a2 0 c2) (.slice none 0 0) (.slice none 0 0)) rfl rfl (blk_new _ (sessL (fun _ => 0) (.slice none 0 0) (.slice none 0 0) (.slice none 0 0)) 30) rfl Try.sizeSess rfl ?_; intro W' BW TW _; have bt := made_touch TW; have b4 := hide (Below.on b3.out bt); replace P5 := hide (P5.out.below bt (Nat.le_refl _)); replace P8 := hide (P8.out.below bt (Nat.le_refl _)); replace P6 := hide (P6.out.on bt); replace P7 := hide (P7.out.on bt); replace BW := hide BW; clear bt TW b3; obtain ⟨e0, e1, e2, e3⟩ := P6.out.start))
  refine (C2.out _ _ P5.out).mono ?_
  rintro e w3 ⟨rfl, hb⟩
  have b5 := hide (Below.on b4.out hb)
  replace P7 := hide (P7.out.on hb)
  replace P8 := hide (P8.out.below hb (Nat.le_refl _))
  replace BW := hide (BW.out.on hb)
  clear hb b4 C2 P5 P6 e0 e1 e2 e3
  obtain ⟨e0, e1, e2, e3⟩ := P7.out.start
  go_wp2_with fail
  refine (C3.out _ _ P8.out).mono ?_
  rintro e w4 ⟨rfl, hb⟩
  have b6 := hide (Below.on b5.out hb)
  replace BW := hide (BW.out.on hb)
  clear hb b5 C3 P7 P8 e0 e1 e2 e3
  go_wp2_with (refine wpList_load_sess rfl (.tmp 8) rfl _ rfl BW.out ?_)
  refine (sameSession_yes (fun _ => 0) a2 none none none none none 0 c2 0 0 0 0 0 0 0 (fun _ => 0) (fun _ => 0) (fun _ => 0) _ (by omega) (by omega) (by omega) (row_zero _ _ _) (row_zero _ _ _) (row_zero _ _ _) (row_zero _ _ _) (row_zero _ _ _) (row_zero _ _ _)).mono ?_
  rintro e w5 ⟨rfl, hb⟩
  have b7 := hide (Below.on b6.out hb)
  clear hb b6 BW
  go_wp2_with (go_at_call 11; refine (num_any _ _).mono ?_; rintro e w' ⟨rfl, rfl⟩)
  go_ret
  exact ⟨rfl, b7.out⟩

set_option maxRecDepth 100000 in
set_option maxHeartbeats 4000000 in
theorem startForms_5 (hM : MaySC) (hN : NewSC) (a0 a1 r : Int) (w : World) (hd : bits .and .i64 a1 1023 = r) (r0 : 0 ≤ r) (r1 : r ≤ 1023) (hp : (IntKind.u64.wrap a0).tmod 10 = 5) :
    Calls Try.prog 4 #[.int .i64 a0, .int .i64 a1] w fun e w' => e = .returned (.bool true) ∧ Below w.heap.size w w' := by
  have v0 : IntKind.i64.wrap (-(1 + r)) = -(1 + r) := IntWalk.i64_in _ ⟨by omega, by omega⟩
  have v1 : IntKind.i64.wrap (254 + (1 + r)) = 254 + (1 + r) := IntWalk.i64_in _ ⟨by omega, by omega⟩
  have v2 : IntKind.i64.wrap (3 + (1 + r)) = 3 + (1 + r) := IntWalk.i64_in _ ⟨by omega, by omega⟩
  have v3 : IntKind.i64.wrap (16 + (1 + r)) = 16 + (1 + r) := IntWalk.i64_in _ ⟨by omega, by omega⟩
  have v4 : IntKind.i64.wrap (1 + r) = 1 + r := IntWalk.i64_in _ ⟨by omega, by omega⟩
  have HM0 : startMay 3 1 (3 + (1 + r)) 1 (oneI 5 0 0 0) = false := by
    unfold startMay; rw [belowV_no2 (noLab_of fun h => by unfold Lab at h; omega), Bool.false_and, Bool.and_false]
  have HM := hide HM0
  clear HM0
  have C0 := hide fun w => awake11_any hM hN w
  have C1 := hide fun w b h => (hN 3 1 (3 + (1 + r)) (some ⟨b, 0, none⟩) 1 1 (oneI 5 0 0 0) w (by omega) (fun h => by cases h) h).mono fun _ _ h => newS_any h
  have C2 := hide fun w b h => hM 3 1 3 (some ⟨b, 0, none⟩) 1 1 (oneI 5 0 0 0) w (by omega) h
  have C3 := hide fun w b h => hM 3 1 (3 + (1 + r)) (some ⟨b, 0, none⟩) 1 1 (oneI 5 0 0 0) w (by omega) h
  rw [show startMay 3 1 3 1 (oneI 5 0 0 0) = true by kernel_rfl] at C2
  rw [HM.out] at C1 C3
  simp only [newE, newN, cond_false] at C1
  unfold startA at C1 C2 C3
  clear hM hN HM
  go_enter Try.func4, Try.ntmps4
  go_wp2_with fail
  refine (C0.out _).mono ?_
  rintro e w1 ⟨rfl, b1⟩
  have s1 := b1.size
  clear C0
  go_upto_region 26 with (fail)
  have b2 : Below w.heap.size w (((w1.alloc (.cells #[.int .i64 5, .int .i64 0, .int .i64 0, .int .i64 0] 43)).alloc (.cells #[.int .i64 3, .int .i64 1, .int .i64 3, (.slice (some ⟨w1.heap.size, 0, none⟩) 1 1)] 24)).alloc (.cells #[.int .i64 3, .int .i64 1, .int .i64 (3 + (1 + r)), (.slice (some ⟨w1.heap.size, 0, none⟩) 1 1)] 24)) := (((b1.alloc s1 _).alloc (by simp; omega) _).alloc (by simp; omega) _)
  have P5 : Blk (((w1.alloc (.cells #[.int .i64 5, .int .i64 0, .int .i64 0, .int .i64 0] 43)).alloc (.cells #[.int .i64 3, .int .i64 1, .int .i64 3, (.slice (some ⟨w1.heap.size, 0, none⟩) 1 1)] 24)).alloc (.cells #[.int .i64 3, .int .i64 1, .int .i64 (3 + (1 + r)), (.slice (some ⟨w1.heap.size, 0, none⟩) 1 1)] 24)) w1.heap.size [.int .i64 5, .int .i64 0, .int .i64 0, .int .i64 0] := ((blk_new w1 _ 43).alloc _).alloc _
  have P6 : Blk (((w1.alloc (.cells #[.int .i64 5, .int .i64 0, .int .i64 0, .int .i64 0] 43)).alloc (.cells #[.int .i64 3, .int .i64 1, .int .i64 3, (.slice (some ⟨w1.heap.size, 0, none⟩) 1 1)] 24)).alloc (.cells #[.int .i64 3, .int .i64 1, .int .i64 (3 + (1 + r)), (.slice (some ⟨w1.heap.size, 0, none⟩) 1 1)] 24)) (w1.heap.size + 1) (startL 3 1 3 (.slice (some ⟨w1.heap.size, 0, none⟩) 1 1)) := by
    have := (blk_new (w1.alloc (.cells #[.int .i64 5, .int .i64 0, .int .i64 0, .int .i64 0] 43)) (startL 3 1 3 (.slice (some ⟨w1.heap.size, 0, none⟩) 1 1)) 24).alloc (.cells #[.int .i64 3, .int .i64 1, .int .i64 (3 + (1 + r)), (.slice (some ⟨w1.heap.size, 0, none⟩) 1 1)] 24)
    rw [World.size_alloc] at this
    exact this
  have P7 : Blk (((w1.alloc (.cells #[.int .i64 5, .int .i64 0, .int .i64 0, .int .i64 0] 43)).alloc (.cells #[.int .i64 3, .int .i64 1, .int .i64 3, (.slice (some ⟨w1.heap.size, 0, none⟩) 1 1)] 24)).alloc (.cells #[.int .i64 3, .int .i64 1, .int .i64 (3 + (1 + r)), (.slice (some ⟨w1.heap.size, 0, none⟩) 1 1)] 24)) (w1.heap.size + 1 + 1) (startL 3 1 (3 + (1 + r)) (.slice (some ⟨w1.heap.size, 0, none⟩) 1 1)) := by
    have := blk_new ((w1.alloc (.cells #[.int .i64 5, .int .i64 0, .int .i64 0, .int .i64 0] 43)).alloc (.cells #[.int .i64 3, .int .i64 1, .int .i64 3, (.slice (some ⟨w1.heap.size, 0, none⟩) 1 1)] 24)) (startL 3 1 (3 + (1 + r)) (.slice (some ⟨w1.heap.size, 0, none⟩) 1 1)) 24
    rw [World.size_alloc, World.size_alloc] at this
    exact this
  have P8 := P5.inst
  replace b2 := hide b2
  replace P5 := hide P5.inst
  replace P6 := hide P6
  replace P7 := hide P7
  replace P8 := hide P8
  change Hid (Below w.heap.size w (((w1.alloc (.cells #[.int .i64 5, .int .i64 0, .int .i64 0, .int .i64 0] 43)).alloc (.cells #[.int .i64 3, .int .i64 1, .int .i64 3, (.slice (some ⟨w1.heap.size, 0, none⟩) 1 1)] 24)).alloc (.cells #[.int .i64 3, .int .i64 1, .int .i64 (3 + (1 + r)), (.slice (some ⟨w1.heap.size, 0, none⟩) 1 1)] 24))) at b2
  unfold startL at *
  generalize (((w1.alloc (.cells #[.int .i64 5, .int .i64 0, .int .i64 0, .int .i64 0] 43)).alloc (.cells #[.int .i64 3, .int .i64 1, .int .i64 3, (.slice (some ⟨w1.heap.size, 0, none⟩) 1 1)] 24)).alloc (.cells #[.int .i64 3, .int .i64 1, .int .i64 (3 + (1 + r)), (.slice (some ⟨w1.heap.size, 0, none⟩) 1 1)] 24)) = W at *
  clear b1 s1 hp hd v0 v1 v2 v3 v4
  generalize w1.heap.size = B at *
  clear w1
  obtain ⟨e0, e1, e2, e3⟩ := P7.out.start
  go_wp2_with fail
  refine (C1.out _ _ P8.out).mono ?_
  rintro e w2 ⟨a2, c2, rfl, _, _, hb⟩
  have b3 := hide (Below.on b2.out hb)
  replace P5 := hide (P5.out.below hb (Nat.le_refl _))
  replace P6 := hide (P6.out.on hb)
  replace P7 := hide (P7.out.on hb)
  replace P8 := hide (P8.out.below hb (Nat.le_refl _))
  clear hb b2 C1 e0 e1 e2 e3
  go_wp2_with (first | (refine wpList_store_all rfl 30 (.tmp 8) (.tmp 70) rfl _ _ (sessL (fun _ => 0) (.slice a2 0 c2) (.slice none 0 0) (.slice none 0 0)) rfl rfl (blk_new _ (sessL (fun _ => 0) (.slice none 0 0) (.slice none 0 0) (.slice none 0 0)) 30) rfl Try.sizeSess rfl ?_; intro W' BW TW _; have bt := made_touch TW; have b4 := hide (Below.on b3.out bt); replace P5 := hide (P5.out.below bt (Nat.le_refl _)); replace P8 := hide (P8.out.below bt (Nat.le_refl _)); replace P6 := hide (P6.out.on bt); replace P7 := hide (P7.out.on bt); replace BW := hide BW; clear bt TW b3; obtain ⟨e0, e1, e2, e3⟩ := P6.out.start))
  refine (C2.out _ _ P5.out).mono ?_
  rintro e w3 ⟨rfl, hb⟩
  have b5 := hide (Below.on b4.out hb)
  replace P7 := hide (P7.out.on hb)
  replace P8 := hide (P8.out.below hb (Nat.le_refl _))
  replace BW := hide (BW.out.on hb)
  clear hb b4 C2 P5 P6 e0 e1 e2 e3
  obtain ⟨e0, e1, e2, e3⟩ := P7.out.start
  go_wp2_with fail
  refine (C3.out _ _ P8.out).mono ?_
  rintro e w4 ⟨rfl, hb⟩
  have b6 := hide (Below.on b5.out hb)
  replace BW := hide (BW.out.on hb)
  clear hb b5 C3 P7 P8 e0 e1 e2 e3
  go_wp2_with (refine wpList_load_sess rfl (.tmp 8) rfl _ rfl BW.out ?_)
  refine (sameSession_yes (fun _ => 0) a2 none none none none none 0 c2 0 0 0 0 0 0 0 (fun _ => 0) (fun _ => 0) (fun _ => 0) _ (by omega) (by omega) (by omega) (row_zero _ _ _) (row_zero _ _ _) (row_zero _ _ _) (row_zero _ _ _) (row_zero _ _ _) (row_zero _ _ _)).mono ?_
  rintro e w5 ⟨rfl, hb⟩
  have b7 := hide (Below.on b6.out hb)
  clear hb b6 BW
  go_wp2_with (go_at_call 11; refine (num_any _ _).mono ?_; rintro e w' ⟨rfl, rfl⟩)
  go_ret
  exact ⟨rfl, b7.out⟩

end Go.Proofs.Ytlaanhkmoficbaa
