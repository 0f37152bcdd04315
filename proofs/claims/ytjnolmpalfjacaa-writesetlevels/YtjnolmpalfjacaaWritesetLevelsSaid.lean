/-
  The law WritesetLevels, if package writeset's functions keep their statements.
-/
import Derived.Test.YtjnolmpalfjacaaWritesAwake
import Derived.Test.YtjnolmpalfjacaaRowKin
import Derived.Deep.Cut
namespace Go.Proofs.Ytjnolmpalfjacaa
open Go.RowKit
set_option linter.unusedSimpArgs false
set_option linter.unusedVariables false

set_option maxRecDepth 10000 in
set_option maxHeartbeats 4000000 in
theorem writesetLevels_said (hM : MayWC) (hW : WithWC) (hF : FindWC) (hA : AtWC) (a : Option Addr) (n c : Nat) (z : Nat → Int) (lv : Int) (w : World) (hn : n * 24 ≤ 140737488351232) (hc : n ≤ c) (ha : a = none → n = 0 ∧ c = 0) (h : Row w a (n * 3) fun i => .int .i64 (z i)) :
    Calls Try.prog 6 #[.slice a n c, .int .i64 lv] w fun e w' => e = .returned (.bool true) ∧ Below w.heap.size w w' := by
  have C0 := hide fun w => awake10_any hM hW hF hA w
  obtain ⟨G, hG⟩ : ∃ G, bits .and .i64 lv 3 = G := ⟨_, rfl⟩
  have CM := hide fun w h => hM a n c z w (by omega) hc h
  have CA := hide fun w h => hA a n c z G w (by omega) hc h
  have H0 := hide h
  clear h
  go_enter Try.func6, Try.ntmps6
  go_wp2_with fail
  refine (C0.out _).mono ?_
  rintro e w1 ⟨rfl, b1⟩
  clear C0
  go_wp2_with fail
  refine (CM.out _ (H0.out.below b1 (Nat.le_refl _))).mono ?_
  rintro e w2 ⟨rfl, hb⟩
  have b2 := Below.on b1 hb
  clear hb b1 CM hG
  cases hr : writesMay n z
  · rw [show atW n z G = false by rw [atW, hr]; rfl] at CA
    clear hr
    go_wp2_with fail
    refine (CA.out _ (H0.out.below b2 (Nat.le_refl _))).mono ?_
    rintro e w3 ⟨rfl, hb⟩
    have b3 := Below.on b2 hb
    clear hb b2 CA
    go_wp2
    go_ret
    exact ⟨rfl, b3⟩
  · rw [show atW n z G = allTo (atLv z G) n by rw [atW, hr]; rfl] at CA
    have HW := hide (writesMay_get hr)
    have n16 := HW.out.few
    clear hr
    go_wp2
    go_loopw [6, 7] (fun al j wr => ∃ (k : Nat) (ab : Bool), k ≤ n ∧ al = .bool ab ∧ j = .int .i64 k ∧ Hid (allTo (atLv z G) k = ab) ∧ Below w.heap.size w wr) (fun _ j _ => n - (intOf j).toNat)
    case atStart => exact ⟨0, true, Nat.zero_le _, rfl, rfl, rfl, b2⟩
    case round =>
      clear b2
      obtain ⟨k, ab, hk, rfl, rfl, HS, hb⟩ := hrel
      by_cases hlt : k < n
      · have i1 : (k : Int) < (n : Int) := by omega
        have HF := find_in HW.out ⟨k, hlt, rfl, rfl, rfl⟩
        have CF := fun w h => hF a n c z (z (k * 3)) (z (k * 3 + 1)) w (by omega) hc ha h
        rw [HF.1, HF.2] at CF
        have HC := hide CF
        clear HF CF
        obtain ⟨b, off, hsa, hbl, d0, d1, d2⟩ := (H0.out.below hb (Nat.le_refl _)).at3 k hlt
        subst hsa
        have HK := hide fun u : Kin wr => Calls.kin_of (u := u) (HC.out u.at_ ((H0.out.below hb (Nat.le_refl _)).below u.below (Nat.le_refl _)))
        cases ab
        · have HN : Hid (allTo (atLv z G) (k + 1) = false) := by
            show allTo (atLv z G) (k + 1) = false
            rw [allTo, HS.out]
            rfl
          clear HS
          go_upto_region 11 with (fail)
          obtain ⟨_, _, hsa, _, p0, p1, p2⟩ := (H0.out.below hb (Nat.le_refl _)).kin3 k hlt
          cases hsa
          have kne : Nonempty (Kin wr) := kin_any wr
          clear d0 d1 d2
          refine wp_region_kin (by kernel_rfl) (by kernel_rfl) ?_
          repeat (go_big_quiet_step ((go_at_call 11; with_reducible exact HK.out _)))
          refine wpQuiet_nil ?_
          rintro _ ⟨u, rfl⟩
          have d2 := p2 u
          have b3 : Below w.heap.size w u.at_ := Below.on hb u.below
          clear p0 p1 p2 HK kne HC hb
          generalize u.at_ = V at *
          clear u
          go_wp2
          go_roundw
          case rel =>
            first
              | exact ⟨k + 1, false, by omega, rfl, by go_num, HN, b3⟩
              | (repeat apply Exists.intro
                 exact ⟨⟨k + 1, false, by omega, rfl, by go_num, HN, b3⟩, rfl⟩)
          case measure => simp [intOf]; omega
        · by_cases v0 : z (k * 3) = G
          · have HN : Hid (allTo (atLv z G) (k + 1) = true) := by
              show allTo (atLv z G) (k + 1) = true
              rw [allTo, HS.out, atLv, v0]
              simp
            rw [v0] at d0
            clear HS v0
            go_upto_region 11 with (fail)
            obtain ⟨_, _, hsa, _, p0, p1, p2⟩ := (H0.out.below hb (Nat.le_refl _)).kin3 k hlt
            cases hsa
            have kne : Nonempty (Kin wr) := kin_any wr
            clear d0 d1 d2
            refine wp_region_kin (by kernel_rfl) (by kernel_rfl) ?_
            repeat (go_big_quiet_step ((go_at_call 11; with_reducible exact HK.out _)))
            refine wpQuiet_nil ?_
            rintro _ ⟨u, rfl⟩
            have d2 := p2 u
            have b3 : Below w.heap.size w u.at_ := Below.on hb u.below
            clear p0 p1 p2 HK kne HC hb
            generalize u.at_ = V at *
            clear u
            go_wp2
            go_roundw
            case rel =>
              first
                | exact ⟨k + 1, true, by omega, rfl, by go_num, HN, b3⟩
                | (repeat apply Exists.intro
                   exact ⟨⟨k + 1, true, by omega, rfl, by go_num, HN, b3⟩, rfl⟩)
            case measure => simp [intOf]; omega
          · have HN : Hid (allTo (atLv z G) (k + 1) = false) := by
              show allTo (atLv z G) (k + 1) = false
              rw [allTo, HS.out, atLv, beq_eq_false_iff_ne.2 v0]
              rfl
            have dv : decide (z (k * 3) = G) = false := decide_eq_false v0
            have dv' : (z (k * 3) == G) = false := beq_eq_false_iff_ne.2 v0
            clear HS v0
            go_upto_region 11 with (fail)
            obtain ⟨_, _, hsa, _, p0, p1, p2⟩ := (H0.out.below hb (Nat.le_refl _)).kin3 k hlt
            cases hsa
            have kne : Nonempty (Kin wr) := kin_any wr
            clear d0 d1 d2
            refine wp_region_kin (by kernel_rfl) (by kernel_rfl) ?_
            repeat (go_big_quiet_step ((go_at_call 11; with_reducible exact HK.out _)))
            refine wpQuiet_nil ?_
            rintro _ ⟨u, rfl⟩
            have d2 := p2 u
            have b3 : Below w.heap.size w u.at_ := Below.on hb u.below
            clear p0 p1 p2 HK kne HC hb
            generalize u.at_ = V at *
            clear u
            go_wp2
            go_roundw
            case rel =>
              first
                | exact ⟨k + 1, false, by omega, rfl, by go_num, HN, b3⟩
                | (repeat apply Exists.intro
                   exact ⟨⟨k + 1, false, by omega, rfl, by go_num, HN, b3⟩, rfl⟩)
            case measure => simp [intOf]; omega
      · obtain rfl : k = n := by omega
        rw [HS.out] at CA
        go_wp2_with fail
        refine (CA.out _ (H0.out.below hb (Nat.le_refl _))).mono ?_
        rintro e w3 ⟨rfl, hb'⟩
        have b3 := Below.on hb hb'
        clear hb hb' CA
        go_wp2_with (go_at_call 14; refine (num_any _ _).mono ?_; rintro e w' ⟨rfl, rfl⟩)
        cases ab <;> (go_ret; exact ⟨rfl, b3⟩)

end Go.Proofs.Ytjnolmpalfjacaa
