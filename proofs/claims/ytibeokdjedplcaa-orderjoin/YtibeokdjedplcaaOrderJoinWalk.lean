/-
  The law OrderJoin: a join is above each, in whatever row, and below whatever is. Its walk.
-/
import Derived.Test.YtibeokdjedplcaaGrow
import Derived.Test.YtibeokdjedplcaaApart
namespace Go.Proofs.Ytibeokdjedplcaa
open Go.RowKit
set_option linter.unusedVariables false

theorem under_self_or {x y : Int} (hx : Lab x) (hy : Lab y) : underV x (bits .or .i64 x y) = true ∧ underV y (bits .or .i64 x y) = true := by
  rcases lab_cases hx with rfl | rfl | rfl | rfl <;> rcases lab_cases hy with rfl | rfl | rfl | rfl <;> decide
theorem under_trans {x y t : Int} (hx : Lab x) (hy : Lab y) (ht : Lab t) (h : underV x y = true) (h' : underV y t = true) : underV x t = true := by
  revert h h'
  rcases lab_cases hx with rfl | rfl | rfl | rfl <;> rcases lab_cases hy with rfl | rfl | rfl | rfl <;> rcases lab_cases ht with rfl | rfl | rfl | rfl <;> decide
theorem under_least {x y t : Int} (hx : Lab x) (hy : Lab y) (ht : Lab t) (h : underV x t = true) (h' : underV y t = true) : underV (bits .or .i64 x y) t = true := by
  revert h h'
  rcases lab_cases hx with rfl | rfl | rfl | rfl <;> rcases lab_cases hy with rfl | rfl | rfl | rfl <;> rcases lab_cases ht with rfl | rfl | rfl | rfl <;> decide
theorem under_anti {x y : Int} (hx : Lab x) (hy : Lab y) (h : underV x y = true) (h' : underV y x = true) : x = y := by
  revert h h'
  rcases lab_cases hx with rfl | rfl | rfl | rfl <;> rcases lab_cases hy with rfl | rfl | rfl | rfl <;> decide

theorem under_join {z : Nat → Int} (hl : ∀ i, Lab (z i)) : ∀ {n i : Nat}, i < n → underV (z i) (joinTo z n) = true
  | n + 1, i, h => by
    have hj : Lab (joinTo z n) := joinTo_lab fun i _ => hl i
    rw [joinTo]
    by_cases e : i = n
    · subst e; exact (under_self_or hj (hl i)).2
    · exact under_trans (hl i) hj (lab_or hj (hl n)) (under_join hl (by omega)) (under_self_or hj (hl n)).1
theorem join_least {z : Nat → Int} (hl : ∀ i, Lab (z i)) {t : Int} (ht : Lab t) : ∀ {n : Nat}, (∀ i, i < n → underV (z i) t = true) → underV (joinTo z n) t = true
  | 0, _ => by rw [joinTo]; rcases lab_cases ht with rfl | rfl | rfl | rfl <;> decide
  | n + 1, h => by
    rw [joinTo]
    exact under_least (joinTo_lab fun i _ => hl i) (hl n) ht (join_least hl ht fun i hi => h i (by omega)) (h n (by omega))

/-- A list in another row. -/
def rotZ (z : Nat → Int) (m n : Nat) (i : Nat) : Int := z ((i + m) % n)
theorem andZ_rot (z : Nat → Int) (m n : Nat) : andZ (rotZ z m n) = rotZ (andZ z) m n := by
  funext i
  unfold andZ rotZ
  rfl
theorem join_rot {z : Nat → Int} (hl : ∀ i, Lab (z i)) {m n : Nat} (hm : m < n) : joinTo (rotZ z m n) n = joinTo z n := by
  have hl' : ∀ i, Lab (rotZ z m n i) := fun i => hl _
  have j1 : Lab (joinTo z n) := joinTo_lab fun i _ => hl i
  have j2 : Lab (joinTo (rotZ z m n) n) := joinTo_lab fun i _ => hl' i
  refine under_anti j2 j1 (join_least hl' j1 fun i _ => under_join hl (Nat.mod_lt _ (by omega))) (join_least hl j2 fun i hi => ?_)
  by_cases h : m ≤ i
  · have := under_join hl' (n := n) (i := i - m) (by omega)
    rw [rotZ, show i - m + m = i by omega, Nat.mod_eq_of_lt hi] at this
    exact this
  · have := under_join hl' (n := n) (i := i + n - m) (by omega)
    rw [rotZ, show i + n - m + m = i + n by omega, Nat.add_mod_right, Nat.mod_eq_of_lt hi] at this
    exact this

theorem rot_join (z : Nat → Int) (m k : Nat) (h : 0 < k → m < k) : ojoinV (andZ (rotZ z m k)) k = joinTo (andZ z) k := by
  rw [ojoinV, if_pos (may_andZ _ k)]
  cases k with
  | zero => rw [joinTo, joinTo]
  | succ k =>
    rw [andZ_rot]
    exact join_rot (fun i => lab_andZ z i) (h (by omega))

/-- Are the first k below t? -/
def underTo (z : Nat → Int) (t : Int) : Nat → Bool
  | 0 => true
  | k + 1 => underTo z t k && underV (z k) t
theorem underTo_lt {z : Nat → Int} {t : Int} : ∀ {n : Nat}, underTo z t n = true → ∀ i, i < n → underV (z i) t = true
  | n + 1, h, i, hi => by
    simp only [underTo, Bool.and_eq_true] at h
    by_cases e : i = n
    · subst e; exact h.2
    · exact underTo_lt h.1 i (by omega)

set_option maxHeartbeats 2000000 in
theorem orderJoin_walk (a0 : Option Addr) (n0 c0 : Nat) (z0 : Nat → Int) (a1 : Int) (a2 : Int) (w : World) (l0 : n0 * 8 ≤ 140737488351232) (e0 : a0 = none → n0 = 0 ∧ c0 = 0) (r0 : Row w a0 n0 fun i => .int .i64 (z0 i)) (w1 : (Lit.int .i64 a1).wf = true) (w2 : (Lit.int .i64 a2).wf = true) :
    Calls Try.prog 4 #[.slice a0 n0 c0, .int .i64 a1, .int .i64 a2] w fun e w' => e = .returned (.bool true) ∧ Below w.heap.size w w' := by
  obtain ⟨i0, hi, hz0, hz1, hz2⟩ := info_parts Try.infoInt
  obtain ⟨m, HP⟩ : ∃ m : Nat, Hid (0 < n0 → m < n0 ∧ wrap64 ((IntKind.u64.wrap a1).tmod (n0 : Int)) = m) := by
    by_cases h : 0 < n0
    · obtain ⟨m, h1, h2⟩ := pick_at a1 n0 (by omega) (by omega)
      exact ⟨m, fun _ => ⟨by omega, h2⟩⟩
    · exact ⟨0, fun h' => absurd h' h⟩
  clear e0 w1 w2
  go_enter Try.func4, Try.ntmps4
  go_wp2_with fail
  refine (awake2_any _).mono ?_
  rintro e wa ⟨rfl, ba⟩
  go_wp2
  go_loopw [7, 8, 10] (fun v u i wr => ∃ k : Nat, k ≤ n0 ∧ i = .int .i64 k ∧ wr.ownsRow w.heap.size 3 1 v k (ints (andZ z0) k) ∧ wr.ownsRow w.heap.size 3 1 u k (ints (andZ (rotZ z0 m n0)) k) ∧ Off v u ∧ Below w.heap.size w wr) (fun _ _ i _ => n0 - (intOf i).toNat)
  case atStart => exact ⟨0, Nat.zero_le _, rfl, World.ownsRow_nil _ _ _ _, World.ownsRow_nil _ _ _ _, (fun g h => by simp [Value.ownBlock] at h), ba⟩
  case round =>
    obtain ⟨k, hk, rfl, hown, hown2, hoff, hb⟩ := hrel
    have hs := hb.size
    by_cases hlt : k < n0
    · obtain ⟨hm, hpick⟩ := HP.out (by omega)
      obtain ⟨j, hj⟩ : ∃ j, j = (k + m) % n0 := ⟨_, rfl⟩
      have hj1 : j < n0 := by rw [hj]; exact Nat.mod_lt _ (by omega)
      have hidx : ((k : Int) + (m : Int)) % (n0 : Int) = (j : Int) := by rw [hj]; simp
      have HJ := hide hj
      clear hj
      have HR0 := hide r0
      obtain ⟨b, off, rfl, _, hc⟩ := r0.below hb (Nat.le_refl _) k hlt
      have HO := hide (hown.alloc (.cells #[.int .i64 (andZ z0 k)] 3))
      have HW := hide hown
      have HW2 := hide hown2
      have HF := hide hoff
      have HB := hide hb
      clear hown hb ba r0 hown2 hoff
      go_wp2_with (at_builtin; refine wpList_append_apart rfl (.tmp 27) (.tmp 33) 22 rfl w.heap.size 3 i0 (.int .i64 0) 1 8 Try.underlying22 hi hz0 hz1 hz2 rfl (by decide) _ _ _ rfl (unhide HO) ⟨wr.heap.size, 0, none⟩ 1 1 [.int .i64 (andZ z0 k)] rfl rfl one_new one_one ?_ ?_ ?_ ?_)
      · unfold maxLen; omega
      · omega
      · omega
      · intro v' w1 h' hg hat
        have R := own_more (unhide HW) (unhide HB) hs h' hg
        have HR := hide R
        have O2 : w1.ownsRow w.heap.size 3 1 _ k (ints (andZ (rotZ z0 m n0)) k) := (HW2.out.alloc _).kept hg HF.out.ne
        have F2 := HF.out.on (fun g h => Nat.lt_succ_of_lt (owns_lt HW2.out g h)) hat
        obtain ⟨b', off', ee, _, hc2⟩ := HR0.out.below R.2 (Nat.le_refl _) j hj1
        simp only [Option.some.injEq, Addr.mk.injEq] at ee
        obtain ⟨rfl, rfl, _⟩ := ee
        have hs1 := R.2.size
        have hzj : bits .and .i64 (z0 j) 3 = andZ (rotZ z0 m n0) k := by rw [andZ, rotZ, ← HJ.out]
        have HO2 := hide O2
        have HF2 := hide F2
        clear h' hg hat R O2 F2 hc HW HW2 HF HB HO
        go_wp2_with (at_builtin; refine wpList_append_apart rfl (.tmp 35) (.tmp 50) 22 rfl w.heap.size 3 i0 (.int .i64 0) 1 8 Try.underlying22 hi hz0 hz1 hz2 rfl (by decide) _ _ _ rfl (HO2.out.alloc _) ⟨w1.heap.size, 0, none⟩ 1 1 [.int .i64 (andZ (rotZ z0 m n0) k)] rfl rfl one_new one_one ?_ ?_ ?_ ?_)
        · unfold maxLen; omega
        · omega
        · first | omega | (rw [World.size_alloc]; omega)
        · intro u' w2 h' hg hat
          have R2 := own_more HO2.out HR.out.2 hs1 h' hg
          have O3 : w2.ownsRow w.heap.size 3 1 v' (k + 1) (ints (andZ z0) (k + 1)) := (HR.out.1.alloc _).kept hg HF2.out.symm.ne
          have F3 := (HF2.out.symm.on (fun g h => Nat.lt_succ_of_lt (owns_lt HR.out.1 g h)) hat).symm
          clear h' hg hat HO2 HF2 HR
          go_wp2
          go_roundw
          case rel => exact ⟨k + 1, by omega, by go_num, O3, R2.1, F3, R2.2⟩
          case measure => simp [intOf]; omega
    · obtain rfl : k = n0 := by omega
      obtain ⟨ax, cx, rfl, _, _, hrx⟩ := row_of_owns hown
      obtain ⟨ay, cy, rfl, _, _, hry⟩ := row_of_owns hown2
      have rx := hrx (fun i => .int .i64 (andZ z0 i)) (fun i hi => ints_get hi)
      have ry := hry (fun i => .int .i64 (andZ (rotZ z0 m k) i)) (fun i hi => ints_get hi)
      have hE : ordE (andZ z0) k = 0 := if_pos (may_andZ z0 k)
      have hE2 : ordE (andZ (rotZ z0 m k)) k = 0 := if_pos (may_andZ _ k)
      have hJ : ojoinV (andZ z0) k = joinTo (andZ z0) k := if_pos (may_andZ z0 k)
      have hJ2 : ojoinV (andZ (rotZ z0 m k)) k = joinTo (andZ z0) k := rot_join z0 m k fun h => (HP.out h).1
      have HB := hide hb
      have HU : Hid (∀ i, i < k → underV (andZ z0 i) (joinTo (andZ z0) k) = true) := fun i hi => under_join (fun i => lab_andZ z0 i) hi
      have HT : Hid (Lab (bits .and .i64 a2 3)) := lab_and a2 ⟨by decide, by decide⟩
      have HLe : Hid (∀ t, Lab t → underTo (andZ z0) t k = true → underV (joinTo (andZ z0) k) t = true) := fun t ht h => join_least (fun i => lab_andZ z0 i) ht (underTo_lt h)
      clear ba r0 hb hown hown2 hoff hrx hry HP
      go_wp2_with fail
      refine (ojoin_any _ k cx (andZ z0) _ (by omega) rx).mono ?_
      rintro e w2 ⟨rfl, rfl⟩
      rw [hE, hJ]
      clear hE hJ
      go_wp2_with fail
      refine (ojoin_any _ k cy (andZ (rotZ z0 m k)) _ (by omega) ry).mono ?_
      rintro e w2 ⟨rfl, rfl⟩
      rw [hE2, hJ2]
      clear hE2 hJ2 ry
      go_wp2
      generalize bits .and .i64 a2 3 = t at *
      generalize hj : joinTo (andZ z0) k = J at *
      clear hj
      go_loop [16, 17] (fun al i => ∃ q : Nat, q ≤ k ∧ i = .int .i64 q ∧ al = .bool (underTo (andZ z0) t q)) (fun _ i => k - (intOf i).toNat)
      case atStart => exact ⟨0, Nat.zero_le _, rfl, rfl⟩
      case round =>
        obtain ⟨q, hq, rfl, rfl⟩ := hrel
        by_cases hlt2 : q < k
        · obtain ⟨b, off, rfl, _, hc⟩ := rx q hlt2
          have hu := HU.out q hlt2
          clear rx
          cases hv : underTo (andZ z0) t q with
          | true =>
            have HN : Hid (underTo (andZ z0) t (q + 1) = underV (andZ z0 q) t) := by show underTo (andZ z0) t (q + 1) = _; rw [underTo, hv]; rfl
            go_wp2_with (go_at_call 16; refine (under_any _ _ _).mono ?_; rintro e w' ⟨rfl, rfl⟩)
            go_round
            case rel => exact ⟨q + 1, by omega, by go_num, by rw [HN.out]⟩
            case measure => simp [intOf]; omega
          | false =>
            have HN : Hid (underTo (andZ z0) t (q + 1) = false) := by show underTo (andZ z0) t (q + 1) = _; rw [underTo, hv]; rfl
            go_wp2_with (go_at_call 16; refine (under_any _ _ _).mono ?_; rintro e w' ⟨rfl, rfl⟩)
            go_round
            case rel => exact ⟨q + 1, by omega, by go_num, by rw [HN.out]⟩
            case measure => simp [intOf]; omega
        · obtain rfl : q = k := by omega
          clear rx
          cases hv : underTo (andZ z0) t q with
          | true =>
            have hu := HLe.out t HT.out hv
            go_wp2_with (first | (go_at_call 16; refine (under_any _ _ _).mono ?_; rintro e w' ⟨rfl, rfl⟩) | (go_at_call 13; go_in))
            go_ret
            exact ⟨rfl, HB.out⟩
          | false =>
            go_wp2
            go_ret
            exact ⟨rfl, HB.out⟩

end Go.Proofs.Ytibeokdjedplcaa
