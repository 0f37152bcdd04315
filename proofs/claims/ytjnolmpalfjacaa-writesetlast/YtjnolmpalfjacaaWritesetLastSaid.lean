/-
  The law WritesetLast, if package writeset's functions keep their statements.
-/
import Derived.Test.YtjnolmpalfjacaaLastPure
import Derived.Test.YtjnolmpalfjacaaMine
import Derived.Deep.Cut
namespace Go.Proofs.Ytjnolmpalfjacaa
open Go.RowKit
set_option linter.unusedSimpArgs false
set_option linter.unusedVariables false

set_option maxRecDepth 10000 in
set_option maxHeartbeats 4000000 in
theorem writesetLast_said (hM : MayWC) (hW : WithWC) (hF : FindWC) (hA : AtWC) (a0 : Option Addr) (n0 c0 : Nat) (z0 : Nat → Int) (w : World) (l0 : n0 * 8 ≤ 140737488351232) (r0 : Row w a0 n0 fun i => .int .i64 (z0 i)) :
    Calls Try.prog 4 #[.slice a0 n0 c0] w fun e w' => e = .returned (.bool true) ∧ Below w.heap.size w w' := by
  have C0 := hide fun w => awake10_any hM hW hF hA w
  go_enter Try.func4, Try.ntmps4
  go_wp2_with fail
  refine (C0.out _).mono ?_
  rintro e w1 ⟨rfl, b1⟩
  have s1 := b1.size
  clear C0
  go_wp2
  go_loopw [3, 6] (fun ws i wr => ∃ (j n : Nat) (z : Nat → Int) (f : Nat → Bool) (g : Nat → Int) (ra : Option Addr) (rc : Nat), j ≤ n0 ∧ j ≤ 40 ∧ ws = .slice ra n rc ∧ i = .int .i64 j ∧ Hid (Lasts n z f g) ∧ Hid (Mine (w1.heap.size + 2) wr ra n rc z) ∧ Own wr w1.heap.size 16 (intF g) ∧ Own wr (w1.heap.size + 1) 16 (boolF f) ∧ w1.heap.size + 2 ≤ wr.heap.size ∧ Below w.heap.size w wr) (fun _ i _ => 40 - (intOf i).toNat)
  case atStart =>
    refine ⟨0, 0, fun _ => 0, fun _ => false, fun _ => 0, none, 0, Nat.zero_le _, Nat.zero_le _, rfl, rfl, Lasts.none _ _, ⟨Nat.le_refl _, fun _ => ⟨rfl, rfl⟩, fun h => absurd h (Nat.lt_irrefl 0)⟩, ?_, ?_, by simp only [World.size_alloc]; omega, (b1.alloc s1 _).alloc (by rw [World.size_alloc]; omega) _⟩
    · have h16 := (blk_new w1 (List.replicate 16 (.int .i64 0)) 41).alloc (.cells (List.replicate 16 (.bool false)).toArray 42)
      exact ⟨_, h16, fun i hi => by rw [List.getElem?_replicate, if_pos hi]; rfl⟩
    · have h16 := blk_new (w1.alloc (.cells (List.replicate 16 (.int .i64 0)).toArray 41)) (List.replicate 16 (.bool false)) 42
      rw [World.size_alloc] at h16
      exact ⟨_, h16, fun i hi => by rw [List.getElem?_replicate, if_pos hi]; rfl⟩
  case round =>
    obtain ⟨j, n, z, f, g, ra, rc, hj, hj4, rfl, rfl, HS, HR, hG, hB, hsz, hb⟩ := hrel
    by_cases hlt : j < n0 ∧ j < 40
    · obtain ⟨hlt, h40⟩ := hlt
      obtain ⟨b, off, rfl, _, hc⟩ := r0.below hb (Nat.le_refl _) j hlt
      have i1 : (j : Int) < (n0 : Int) := by omega
      have i2 : (j : Int) < 40 := by omega
      obtain ⟨k, hk, hkm⟩ : ∃ k : Nat, k < 16 ∧ bits .and .i64 (z0 j) 15 = k := ⟨(z0 j % 16).toNat, by omega, by rw [mask15]; omega⟩
      obtain ⟨u, hu, hum⟩ : ∃ u : Int, (0 ≤ u ∧ u ≤ 255) ∧ bits .and .i64 (z0 j / 16) 255 = u := ⟨z0 j / 16 % 256, by omega, mask255 _⟩
      have n16 := HS.out.wr.few
      have HN := hide (HS.out.step hk hu)
      have CW := hide fun w h => (hW ra n rc z ((k / 4 : Nat) : Int) ((k % 4 : Nat) : Int) u w (by omega) HR.out.1 HR.out.2.1 h).mono fun _ _ h => withW_any h
      rw [withWE_yes (HS.out.ok hk hu)] at CW
      have q4 := quarter k
      have m4 := rest4 k
      clear hu HS
      generalize hg : k / 4 = p at *
      generalize hi' : k % 4 = i at *
      clear hg hi'
      have s0 := hb.size
      go_wp2
      go_quiet (fail)
      replace HR : Hid (Mine (w1.heap.size + 2) (wr.drewN nq) ra n rc z) := HR.out
      replace hG := hG.drawn nq
      replace hB := hB.drawn nq
      replace hsz : w1.heap.size + 2 ≤ (wr.drewN nq).heap.size := hsz
      replace hb := Below.drawn hb nq
      clear hc s0
      generalize wr.drewN nq = W at *
      go_wp2_with fail
      refine (CW.out _ HR.out.row).mono ?_
      rintro e w3 ⟨a', c', rfl, hc', ha', _, ho', hb3⟩
      generalize withWN n z (p : Int) (i : Int) u = N, withWZ n z (p : Int) (i : Int) u = Z at *
      have s3 := hb3.size
      have HM : Hid (Mine (w1.heap.size + 2) w3 a' N c' Z) := ⟨hc', ha', fun hp => by obtain ⟨b', e1, e2, _, e4⟩ := ho' hp; exact ⟨b', e1, by omega, e4⟩⟩
      replace hG := hG.on hb3
      replace hB := hB.on hb3
      have b3 := Below.on hb hb3
      clear hc' ha' ho' hb3 hb HR CW hkm hum q4 m4
      have f4 := hG.frozen k
      have c4 := hG.cell (i := k) hk
      have z4 := hG.lt
      have f5 := hB.frozen k
      have c5 := hB.cell (i := k) hk
      have z5 := hB.lt
      have i3 : (k : Int) < 16 := by omega
      unfold intF at c4
      unfold boolF at c5
      go_wp2_with (go_at_call 14; refine (num_any _ _).mono ?_; rintro e w' ⟨rfl, rfl⟩)
      go_roundw
      case rel =>
        have hG2 := (hG.setInt k u).far (a := ⟨w1.heap.size + 1, k, none⟩) (.bool true) (by simp)
        have hB2 := (hB.far (a := ⟨w1.heap.size, k, none⟩) (.int .i64 u) (by simp)).setBool k
        have HM2 := (HM.out.far (x := ⟨w1.heap.size, k, none⟩) (by simp) (.int .i64 u)).far (x := ⟨w1.heap.size + 1, k, none⟩) (by simp) (.bool true)
        have b5 : Below w.heap.size w ((w3.setCell ⟨w1.heap.size, k, none⟩ (.int .i64 u)).setCell ⟨w1.heap.size + 1, k, none⟩ (.bool true)) := (b3.setCell (by simp; omega) _).setCell (by simp; omega) _
        have hsz5 : w1.heap.size + 2 ≤ ((w3.setCell ⟨w1.heap.size, k, none⟩ (.int .i64 u)).setCell ⟨w1.heap.size + 1, k, none⟩ (.bool true)).heap.size := by rw [World.size_setCell, World.size_setCell]; omega
        first
          | exact ⟨j + 1, N, Z, updF f k, updZ g k u, a', c', by omega, by omega, rfl, by go_num, HN, HM2, hG2, hB2, hsz5, b5⟩
          | (repeat apply Exists.intro
             exact ⟨⟨j + 1, N, Z, updF f k, updZ g k u, a', c', by omega, by omega, rfl, by go_num, HN, HM2, hG2, hB2, hsz5, b5⟩, rfl⟩)
      case measure => simp [intOf]; omega
    · by_cases h40 : j < n0
      · have i1 : (j : Int) < (n0 : Int) := by omega
        have i2 : ¬ (j : Int) < 40 := by omega
        go_wp2
        go_loopw [11, 12] (fun mn k wr => ∃ (m : Nat), m ≤ 16 ∧ mn = .int .i64 (cnt f m : Int) ∧ k = .int .i64 m ∧ Hid (Mine (w1.heap.size + 2) wr ra n rc z) ∧ Own wr w1.heap.size 16 (intF g) ∧ Own wr (w1.heap.size + 1) 16 (boolF f) ∧ Below w.heap.size w wr) (fun _ k _ => 16 - (intOf k).toNat)
        case atStart => exact ⟨0, Nat.zero_le _, rfl, rfl, HR, hG, hB, hb⟩
        case round =>
          clear HR hG hB hb hsz
          rename_i wv
          obtain ⟨m, hm, rfl, rfl, HR, hG, hB, hb⟩ := hrel
          by_cases hm6 : m < 16
          · have i5 : (m : Int) < 16 := by omega
            have q4 := quarter m
            have m4 := rest4 m
            have ff := HS.out.find hm6
            have n16 := HS.out.wr.few
            have CF := fun w h => hF ra n rc z ((m / 4 : Nat) : Int) ((m % 4 : Nat) : Int) w (by omega) HR.out.1 HR.out.2.1 h
            rw [ff.1] at CF
            have hcn := cnt_le f m
            generalize hg : m / 4 = p at *
            generalize hi' : m % 4 = i at *
            cases e : f m
            · rw [e] at CF
              have HCF := hide CF
              have HN : Hid (cnt f (m + 1) = cnt f m) := by show cnt f (m + 1) = cnt f m; rw [cnt, e]; rfl
              clear hg hi' ff CF
              go_wp2_with fail
              refine (HCF.out _ HR.out.row).mono ?_
              rintro e' w4 ⟨rfl, hb4⟩
              replace HR := hide (HR.out.on hb4)
              replace hG := hG.on hb4
              replace hB := hB.on hb4
              have b4 := Below.on hb hb4
              have c5 := hB.cell (i := m) hm6
              have z5 := hB.lt
              unfold boolF at c5
              rw [e] at c5
              clear hb4 hb HCF q4 m4 e
              go_wp2
              go_roundw
              case rel =>
                first
                  | exact ⟨m + 1, by omega, by rw [HN.out], by go_num, HR, hG, hB, b4⟩
                  | (repeat apply Exists.intro
                     exact ⟨⟨m + 1, by omega, by rw [HN.out], by go_num, HR, hG, hB, b4⟩, rfl⟩)
              case measure => simp [intOf]; omega
            · rw [e, ff.2 e] at CF
              have HCF := hide CF
              have HN : Hid (cnt f (m + 1) = cnt f m + 1) := by show cnt f (m + 1) = cnt f m + 1; rw [cnt, e]; rfl
              clear hg hi' ff CF
              go_wp2_with fail
              refine (HCF.out _ HR.out.row).mono ?_
              rintro e' w4 ⟨rfl, hb4⟩
              replace HR := hide (HR.out.on hb4)
              replace hG := hG.on hb4
              replace hB := hB.on hb4
              have b4 := Below.on hb hb4
              have c4 := hG.cell (i := m) hm6
              have c5 := hB.cell (i := m) hm6
              have z4 := hG.lt
              have z5 := hB.lt
              unfold intF at c4
              unfold boolF at c5
              rw [e] at c5
              clear hb4 hb HCF q4 m4 e
              go_wp2
              go_roundw
              case rel =>
                first
                  | exact ⟨m + 1, by omega, by rw [HN.out]; go_num, by go_num, HR, hG, hB, b4⟩
                  | (repeat apply Exists.intro
                     exact ⟨⟨m + 1, by omega, by rw [HN.out]; go_num, by go_num, HR, hG, hB, b4⟩, rfl⟩)
              case measure => simp [intOf]; omega
          · obtain rfl : m = 16 := by omega
            have CM := hide fun w h => hM ra n rc z w (by have := HS.out.wr.few; omega) HR.out.1 h
            rw [HS.out.wr.may] at CM
            have hmany := HS.out.many
            rw [hmany]
            go_wp2_with fail
            refine (CM.out _ HR.out.row).mono ?_
            rintro e w4 ⟨rfl, hb4⟩
            have b4 := Below.on hb hb4
            clear CM hb hb4 hG hB HR
            go_wp2
            go_ret
            exact ⟨rfl, b4⟩
      · have i2 : ¬ (j : Int) < (n0 : Int) := by omega
        go_wp2
        go_loopw [11, 12] (fun mn k wr => ∃ (m : Nat), m ≤ 16 ∧ mn = .int .i64 (cnt f m : Int) ∧ k = .int .i64 m ∧ Hid (Mine (w1.heap.size + 2) wr ra n rc z) ∧ Own wr w1.heap.size 16 (intF g) ∧ Own wr (w1.heap.size + 1) 16 (boolF f) ∧ Below w.heap.size w wr) (fun _ k _ => 16 - (intOf k).toNat)
        case atStart => exact ⟨0, Nat.zero_le _, rfl, rfl, HR, hG, hB, hb⟩
        case round =>
          clear HR hG hB hb hsz
          rename_i wv
          obtain ⟨m, hm, rfl, rfl, HR, hG, hB, hb⟩ := hrel
          by_cases hm6 : m < 16
          · have i5 : (m : Int) < 16 := by omega
            have q4 := quarter m
            have m4 := rest4 m
            have ff := HS.out.find hm6
            have n16 := HS.out.wr.few
            have CF := fun w h => hF ra n rc z ((m / 4 : Nat) : Int) ((m % 4 : Nat) : Int) w (by omega) HR.out.1 HR.out.2.1 h
            rw [ff.1] at CF
            have hcn := cnt_le f m
            generalize hg : m / 4 = p at *
            generalize hi' : m % 4 = i at *
            cases e : f m
            · rw [e] at CF
              have HCF := hide CF
              have HN : Hid (cnt f (m + 1) = cnt f m) := by show cnt f (m + 1) = cnt f m; rw [cnt, e]; rfl
              clear hg hi' ff CF
              go_wp2_with fail
              refine (HCF.out _ HR.out.row).mono ?_
              rintro e' w4 ⟨rfl, hb4⟩
              replace HR := hide (HR.out.on hb4)
              replace hG := hG.on hb4
              replace hB := hB.on hb4
              have b4 := Below.on hb hb4
              have c5 := hB.cell (i := m) hm6
              have z5 := hB.lt
              unfold boolF at c5
              rw [e] at c5
              clear hb4 hb HCF q4 m4 e
              go_wp2
              go_roundw
              case rel =>
                first
                  | exact ⟨m + 1, by omega, by rw [HN.out], by go_num, HR, hG, hB, b4⟩
                  | (repeat apply Exists.intro
                     exact ⟨⟨m + 1, by omega, by rw [HN.out], by go_num, HR, hG, hB, b4⟩, rfl⟩)
              case measure => simp [intOf]; omega
            · rw [e, ff.2 e] at CF
              have HCF := hide CF
              have HN : Hid (cnt f (m + 1) = cnt f m + 1) := by show cnt f (m + 1) = cnt f m + 1; rw [cnt, e]; rfl
              clear hg hi' ff CF
              go_wp2_with fail
              refine (HCF.out _ HR.out.row).mono ?_
              rintro e' w4 ⟨rfl, hb4⟩
              replace HR := hide (HR.out.on hb4)
              replace hG := hG.on hb4
              replace hB := hB.on hb4
              have b4 := Below.on hb hb4
              have c4 := hG.cell (i := m) hm6
              have c5 := hB.cell (i := m) hm6
              have z4 := hG.lt
              have z5 := hB.lt
              unfold intF at c4
              unfold boolF at c5
              rw [e] at c5
              clear hb4 hb HCF q4 m4 e
              go_wp2
              go_roundw
              case rel =>
                first
                  | exact ⟨m + 1, by omega, by rw [HN.out]; go_num, by go_num, HR, hG, hB, b4⟩
                  | (repeat apply Exists.intro
                     exact ⟨⟨m + 1, by omega, by rw [HN.out]; go_num, by go_num, HR, hG, hB, b4⟩, rfl⟩)
              case measure => simp [intOf]; omega
          · obtain rfl : m = 16 := by omega
            have CM := hide fun w h => hM ra n rc z w (by have := HS.out.wr.few; omega) HR.out.1 h
            rw [HS.out.wr.may] at CM
            have hmany := HS.out.many
            rw [hmany]
            go_wp2_with fail
            refine (CM.out _ HR.out.row).mono ?_
            rintro e w4 ⟨rfl, hb4⟩
            have b4 := Below.on hb hb4
            clear CM hb hb4 hG hB HR
            go_wp2
            go_ret
            exact ⟨rfl, b4⟩

end Go.Proofs.Ytjnolmpalfjacaa
