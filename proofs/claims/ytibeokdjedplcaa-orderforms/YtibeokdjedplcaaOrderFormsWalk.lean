/-
  The law OrderForms: one that is no label spoils all. Its walk.
-/
import Derived.Test.YtibeokdjedplcaaGrow
import Derived.RegionTactic
import Derived.BigRegion
namespace Go.Proofs.Ytibeokdjedplcaa
open Go.RowKit
set_option linter.unusedVariables false

/-- 0 ahead of a list. -/
def consZ (z : Nat → Int) : Nat → Int
  | 0 => 0
  | i + 1 => z i
/-- A list with another one in a place. -/
def setZ (z : Nat → Int) (m : Nat) (x : Int) (i : Nat) : Int := if i = m then x else z i

theorem made_one (w : World) (B : Nat) (e : TypeId) (x : Int) (hB : B ≤ w.heap.size) (z : Nat → Int) (hz : z 0 = x) : (w.alloc (.cells #[.int .i64 x] e)).ownsRow B e 1 (.slice (some ⟨w.heap.size, 0, none⟩) 1 1) 1 (ints z 1) := by
  refine ⟨by simp [ints], .inr ⟨w.heap.size, 1, #[.int .i64 x], rfl, hB, heap_alloc_new w _, Nat.le_refl _, by decide, by simp, ?_⟩⟩
  simp [ints, hz]

theorem ints_set (z : Nat → Int) (n m : Nat) (x : Int) : (ints z n).set m (.int .i64 x) = ints (setZ z m x) n := by
  apply List.ext_getElem?
  intro i
  rw [List.getElem?_set]
  by_cases h : i < n
  · rw [ints_get h, ints_get h, ints_len]
    by_cases e : m = i
    · subst e; simp [setZ, h]
    · simp [setZ, e, Ne.symm e]
  · rw [List.getElem?_eq_none (by rw [ints_len]; omega), List.getElem?_eq_none (by rw [ints_len]; omega), ints_len]
    simp
    omega

/-- A store into what the call owns, and a new block behind it. -/
theorem stored {w wr : World} {B g k cap m : Nat} {e : TypeId} {z : Nat → Int} (x : Int) (o : Obj) (h : wr.ownsRow B e 1 (.slice (some ⟨g, 0, none⟩) k cap) k (ints z k)) (hb : Below B w wr) (hg : B ≤ g) :
    Row ((wr.setCell ⟨g, m, none⟩ (.int .i64 x)).alloc o).drew (some ⟨g, 0, none⟩) k (fun i => .int .i64 (setZ z m x i)) ∧ (B ≤ wr.heap.size → Below B w ((wr.setCell ⟨g, m, none⟩ (.int .i64 x)).alloc o).drew) := by
  have h1 := (h.stored m (.int .i64 x)).1
  rw [ints_set] at h1
  have h2 := h1.alloc o
  obtain ⟨a, cap', e', _, _, hr⟩ := row_of_owns h2
  simp only [Value.slice.injEq, true_and] at e'
  obtain ⟨rfl, rfl⟩ := e'
  exact ⟨hr _ (fun i hi => ints_get hi), fun hB => ((hb.setCell hg _).alloc (by simpa [World.setCell] using hB) _).drew⟩

set_option maxHeartbeats 2000000 in
theorem orderForms_walk (a0 : Option Addr) (n0 c0 : Nat) (z0 : Nat → Int) (a1 : Int) (a2 : Int) (w : World) (l0 : n0 * 8 ≤ 140737488351232) (e0 : a0 = none → n0 = 0 ∧ c0 = 0) (r0 : Row w a0 n0 fun i => .int .i64 (z0 i)) (w1 : (Lit.int .i64 a1).wf = true) (w2 : (Lit.int .i64 a2).wf = true) :
    Calls Try.prog 6 #[.slice a0 n0 c0, .int .i64 a1, .int .i64 a2] w fun e w' => e = .returned (.bool true) ∧ Below w.heap.size w w' := by
  obtain ⟨i0, hi, hz0, hz1, hz2⟩ := info_parts Try.infoInt
  obtain ⟨d, hd, hdd⟩ : ∃ d : Nat, d < 1024 ∧ bits .and .i64 a2 1023 = d := ⟨(a2 % 1024).toNat, by omega, by rw [mask1023]; omega⟩
  obtain ⟨p, hp, hpp⟩ : ∃ p : Nat, p < 2 ∧ bits .and .i64 a2 1 = p := ⟨(a2 % 2).toNat, by omega, by rw [mask1]; omega⟩
  clear e0 w1 w2
  go_enter Try.func6, Try.ntmps6
  go_wp2_with fail
  refine (awake2_any _).mono ?_
  rintro e wa ⟨rfl, ba⟩
  have hsa := ba.size
  go_wp2
  go_loopw [8, 9] (fun v i wr => ∃ k : Nat, k ≤ n0 ∧ i = .int .i64 k ∧ wr.ownsRow w.heap.size 3 1 v (k + 1) (ints (consZ (andZ z0)) (k + 1)) ∧ Below w.heap.size w wr) (fun _ i _ => n0 - (intOf i).toNat)
  case atStart => exact ⟨0, Nat.zero_le _, rfl, made_one wa _ _ 0 hsa _ rfl, ba.alloc hsa _⟩
  case round =>
    obtain ⟨k, hk, rfl, hown, hb⟩ := hrel
    have hs := hb.size
    by_cases hlt : k < n0
    · obtain ⟨b, off, rfl, _, hc⟩ := r0.below hb (Nat.le_refl _) k hlt
      have HO := hide (hown.alloc (.cells #[.int .i64 (andZ z0 k)] 3))
      have HW := hide hown
      have HB := hide hb
      clear hown hb ba r0
      go_wp2_with (at_builtin; refine wpList_append_own _ rfl (.tmp 26) (.tmp 32) 22 rfl w.heap.size 3 i0 (.int .i64 0) 1 8 Try.underlying22 hi hz0 hz1 hz2 rfl (by decide) _ _ _ rfl (unhide HO) ⟨wr.heap.size, 0, none⟩ 1 1 [.int .i64 (andZ z0 k)] rfl rfl one_new one_one ?_ ?_ ?_ ?_)
      · unfold maxLen; omega
      · omega
      · omega
      · intro v' w1 h' hg _
        have R := own_more (z := consZ (andZ z0)) (unhide HW) (unhide HB) hs h' hg
        clear h' hg
        go_wp2
        go_roundw
        case rel => exact ⟨k + 1, by omega, by go_num, R.1, R.2⟩
        case measure => simp [intOf]; omega
    · obtain rfl : k = n0 := by omega
      obtain ⟨m, hm, hpick⟩ := pick_at a1 ((k : Int) + 1) (by omega) (by omega)
      have HB := hide hb
      rcases owns_cases hown with ⟨_, h0⟩ | ⟨g, cap, rfl, hg, hcap, hmax, hrow⟩
      · omega
      obtain ⟨cm, hcm⟩ : ∃ u, wr.cell? ⟨g, m, none⟩ = some u := by
        obtain ⟨b1, o1, ee, _, hc1⟩ := hrow m (by omega)
        simp only [Option.some.injEq, Addr.mk.injEq] at ee
        obtain ⟨rfl, rfl, _⟩ := ee
        rw [Nat.zero_add] at hc1
        exact ⟨_, hc1⟩
      have hfr : wr.frozen? ⟨g, m, none⟩ = false := hown.frozenAt m
      have hgl : g < wr.heap.size := World.block_lt_of_cell? wr _ hcm
      clear ba r0 hb
      have HO := hide hown
      have HR := hide hrow
      clear hown hrow
      have hbad1 : mayV (-(1 + (d : Int))) = false := mayV_no (.inl (by omega))
      have hbad2 : mayV (3 + (1 + (d : Int))) = false := mayV_no (.inr (by omega))
      obtain ⟨x, hx, HX⟩ : ∃ x : Int, mayV x = false ∧ Hid (x = if p = 0 then -(1 + (d : Int)) else 3 + (1 + (d : Int))) := ⟨_, by split <;> assumption, rfl⟩
      have hmay : mayTo (setZ (consZ (andZ z0)) m x) (k + 1) = false := mayTo_no m (by omega) (by simpa [setZ] using hx)
      have q1 : ojoinV (setZ (consZ (andZ z0)) m x) (k + 1) = 0 := by rw [ojoinV, hmay]; rfl
      have q2 : ordE (setZ (consZ (andZ z0)) m x) (k + 1) = 200 := by rw [ordE, hmay]; rfl
      have q3 : ochainV (setZ (consZ (andZ z0)) m x) (k + 1) = false := by rw [ochainV, hmay]; rfl
      have HT := fun o => hide (stored (m := m) x o HO.out HB.out hg)
      clear hbad1 hbad2 hx hmay HO HR HB
      rcases (show p = 0 ∨ p = 1 by omega) with rfl | rfl
      all_goals
        have hx := HX.out
        simp only [if_true, Nat.one_ne_zero, if_false] at hx
        subst hx
        clear HX
        go_wp2
        go_region
        generalize hw5 : World.drew (World.alloc (World.setCell wr _ _) _) = w5
        obtain ⟨hrow, hbel⟩ := (HT _).out
        rw [hw5] at hrow hbel
        have HB5 := hide (hbel hs)
        clear hbel hw5 HT hcm hfr hgl hpick
        go_wp2_with fail
        refine (ojoin_any _ (k + 1) cap _ _ (by omega) hrow).mono ?_
        rintro e w6 ⟨rfl, rfl⟩
        rw [q1, q2]
        go_wp2_with fail
        refine (ochain_any _ (k + 1) cap _ _ (by omega) hrow).mono ?_
        rintro e w6 ⟨rfl, q, h1⟩
        rw [q3, q2]
        have HB6 : Hid (Below w.heap.size w w6) := by subst h1; exact below_drewN HB5.out q
        clear h1 hrow q1 q2 q3 HB5
        go_wp2
        go_ret
        exact ⟨rfl, HB6.out⟩

end Go.Proofs.Ytibeokdjedplcaa
