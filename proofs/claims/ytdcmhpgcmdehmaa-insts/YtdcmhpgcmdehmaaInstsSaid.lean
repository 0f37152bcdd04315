/-
  The law Insts, if package inst's functions keep their statements.
-/
import Derived.Test.YtdcmhpgcmdehmaaInstStat
import Derived.Test.YtdcmhpgcmdehmaaKin
import Derived.Deep.QuietTactic
import Derived.BigQuiet
namespace Go.Proofs.Ytdcmhpgcmdehmaa
open Go.RowKit
set_option linter.unusedSimpArgs false
set_option linter.unusedVariables false

theorem text_list (l : List UInt8) : (⟨l.toArray⟩ : ByteArray).toList = l := by
  rw [ByteArray.toList_eq]
/-- Unlike ones have unlike bytes. -/
theorem inst_same {i j : Nat → Int} (hi : instMay i = true) (hj : instMay j = true) : (instT i == instT j) = (i 0 == j 0 && i 1 == j 1 && i 2 == j 2 && i 3 == j 3) := by
  rw [Bool.eq_iff_iff]
  simp only [beq_iff_eq, Bool.and_eq_true]
  constructor
  · intro h
    have := instT_inj hi hj h
    exact ⟨⟨⟨this 0 (by omega), this 1 (by omega)⟩, this 2 (by omega)⟩, this 3 (by omega)⟩
  · rintro ⟨⟨⟨h0, h1⟩, h2⟩, h3⟩
    unfold instT
    rw [h0, h1, h2, h3]

set_option maxRecDepth 100000 in
set_option maxHeartbeats 4000000 in
theorem insts_said (hM : MayIC) (hP : PutIC) (hG : GetIC) (a b : Nat → Int) (l : List UInt8) (w : World) :
    Calls Try.prog 3 #[quadA a, quadA b, textS l] w fun e w' => e = .returned (.bool true) ∧ Below w.heap.size w w' := by
  have C1 := hide fun w => hP a w
  have C2 := hide fun w => rputInst_any a w
  have C3 := hide fun w => hG l w
  have C4 := hide fun w => rgetInst_any l w
  have C5 := hide fun w => hP b w
  have C6 := hide fun w => awake7_any hM hP hG w
  have C7 := hide fun w => hM a w
  have C8 := hide fun w => rinstMay_any a w
  clear hM hP hG
  have HX : Hid (putIE a = 0 → putIE b = 0 → (putIT a == putIT b) = (a 0 == b 0 && a 1 == b 1 && a 2 == b 2 && a 3 == b 3)) := by
    intro ha hb
    unfold putIE at ha hb
    cases h1 : instMay a
    · rw [h1] at ha; cases ha
    · cases h2 : instMay b
      · rw [h2] at hb; cases hb
      · unfold putIT; rw [h1, h2]; exact inst_same h1 h2
  generalize putIT a = x, putIE a = xe at *
  generalize putIT b = z, putIE b = ze at *
  generalize getII l = c, getIE l = ce at *
  generalize instMay a = m at *
  have tx := text_list x
  have tz := text_list z
  unfold quadA textS at *
  go_enter Try.func3, Try.ntmps3
  go_wp2_with fail
  refine (C1.out _).mono ?_
  rintro e w1 ⟨rfl, hb⟩
  have b1 : Below w.heap.size w w1 := Below.on (by go_grown) hb
  have H1 : Held w1 [(w.heap.size, quadL a), (w.heap.size + 1, quadL b)] := by
    have e1 := (blk_new (w.alloc (.cells (quadL a).toArray 23)) (quadL b) 23).on hb
    rw [World.size_alloc] at e1
    exact Held.cons (((blk_new w (quadL a) 23).alloc _).on hb) (Held.cons e1 (Held.nil _))
  have y0 := (H1.at 0 rfl).lt
  clear hb C1
  obtain ⟨c0, c1, c2, c3⟩ := (H1.at 0 rfl).cells4
  go_wp2_with fail
  refine (C2.out _).mono ?_
  rintro e w2 ⟨rfl, hb⟩
  have b2 : Below w.heap.size w w2 := Below.on b1 hb
  replace H1 := H1.on hb
  clear hb C2 c0 c1 c2 c3 b1 y0
  go_wp2_with fail
  refine (C3.out _).mono ?_
  rintro e w3 ⟨rfl, hb⟩
  have b3 : Below w.heap.size w w3 := Below.on b2 hb
  have s3 := b3.size
  replace H1 := H1.on hb
  clear hb C3 b2
  go_wp2_with fail
  refine (C4.out _).mono ?_
  rintro e w4 ⟨rfl, hb⟩
  have b4 : Below w.heap.size w w4 := Below.on (b3.alloc s3 _) hb
  have s4 := b4.size
  have H4 : Held w4 [(w3.heap.size, quadL c), (w.heap.size, quadL a), (w.heap.size + 1, quadL b)] := Held.cons ((blk_new w3 (quadL c) 23).on hb) ((H1.alloc _).on hb)
  clear hb C4 b3 s3 H1
  have y1 := (H4.at 2 rfl).lt
  obtain ⟨c0, c1, c2, c3⟩ := (H4.at 2 rfl).cells4
  go_wp2_with fail
  refine (C5.out _).mono ?_
  rintro e w5 ⟨rfl, hb⟩
  have b5 : Below w.heap.size w w5 := Below.on (b4.alloc s4 _) hb
  have H5 : Held w5 [(w4.heap.size, quadL c), (w3.heap.size, quadL c), (w.heap.size, quadL a), (w.heap.size + 1, quadL b)] := Held.cons ((blk_new w4 (quadL c) 23).on hb) ((H4.alloc _).on hb)
  clear hb C5 b4 s4 H4 y1 c0 c1 c2 c3
  go_upto_region 6 with (fail)
  obtain ⟨p0, p1, p2, p3⟩ := (H5.at 0 rfl).kin4
  obtain ⟨q0, q1, q2, q3⟩ := (H5.at 1 rfl).kin4
  obtain ⟨r0, r1, r2, r3⟩ := (H5.at 2 rfl).kin4
  have K7 : Hid (∀ u : Kin w5, Calls Try.prog 12 #[.agg #[.int .i64 (a 0), .int .i64 (a 1), .int .i64 (a 2), .int .i64 (a 3)]] u.at_ fun e w'' => e = .returned (.bool m) ∧ ∃ u' : Kin w5, w'' = u'.at_) := fun u => Calls.kin_of (C7.out _)
  have K8 : Hid (∀ u : Kin w5, Calls Try.prog 13 #[.agg #[.int .i64 (a 0), .int .i64 (a 1), .int .i64 (a 2), .int .i64 (a 3)]] u.at_ fun e w'' => e = .returned (.bool m) ∧ ∃ u' : Kin w5, w'' = u'.at_) := fun u => Calls.kin_of (C8.out _)
  have kne : Nonempty (Kin w5) := kin_any w5
  refine wp_region_kin (by kernel_rfl) (by kernel_rfl) ?_
  repeat (go_big_quiet_step ((first | (go_at_call 11; exact Calls.kin_same (num_any _ _)) | (go_at_call 12; exact K7.out _) | (go_at_call 13; exact K8.out _))))
  refine wpQuiet_nil ?_
  rintro _ ⟨u, rfl⟩
  have b6 : Below w.heap.size w u.at_ := b5.trans (u.below.mono b5.size)
  have H6 := H5.on u.below
  clear p0 p1 p2 p3 q0 q1 q2 q3 r0 r1 r2 r3 K7 K8 kne H5 b5 C7 C8
  generalize u.at_ = W at *
  clear u
  by_cases hx0 : xe = 0
  · subst hx0
    by_cases hz0 : ze = 0
    · subst hz0
      have hxz := HX.out rfl rfl
      obtain ⟨c0, c1, c2, c3⟩ := (H6.at 2 rfl).cells4
      obtain ⟨d0, d1, d2, d3⟩ := (H6.at 3 rfl).cells4
      clear HX H6
      cases e0 : (a 0 == b 0) <;> cases e1 : (a 1 == b 1) <;> cases e2 : (a 2 == b 2) <;> cases e3 : (a 3 == b 3)
      all_goals
        rw [e0, e1, e2, e3] at hxz
        simp only [Bool.and_true, Bool.and_false, Bool.true_and, Bool.false_and] at hxz
        go_wp2_with (go_at_call 11; refine (num_any _ _).mono ?_; rintro e w' ⟨rfl, rfl⟩)
        refine (C6.out _).mono ?_
        rintro e w6 ⟨rfl, hb⟩
        have b7 : Below w.heap.size w w6 := Below.on b6 hb
        clear hb
        go_wp2
        go_ret
        exact ⟨rfl, b7⟩
    · have hz1 : (ze != 0) = true := by rw [bne_iff_ne]; exact hz0
      clear HX H6
      go_wp2_with (go_at_call 11; refine (num_any _ _).mono ?_; rintro e w' ⟨rfl, rfl⟩)
      refine (C6.out _).mono ?_
      rintro e w6 ⟨rfl, hb⟩
      have b7 : Below w.heap.size w w6 := Below.on b6 hb
      clear hb
      go_wp2
      go_ret
      exact ⟨rfl, b7⟩
  · have hx1 : (xe != 0) = true := by rw [bne_iff_ne]; exact hx0
    clear HX H6
    go_wp2_with (go_at_call 11; refine (num_any _ _).mono ?_; rintro e w' ⟨rfl, rfl⟩)
    refine (C6.out _).mono ?_
    rintro e w6 ⟨rfl, hb⟩
    have b7 : Below w.heap.size w w6 := Below.on b6 hb
    clear hb
    go_wp2
    go_ret
    exact ⟨rfl, b7⟩

end Go.Proofs.Ytdcmhpgcmdehmaa
