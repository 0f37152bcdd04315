/-
  The landed split, With, Find and At of package writeset.
-/
import Derived.Test.YtaaenolbfhhnfaaGreatZlae
namespace Go.Proofs.YtaaenolbfhhnfaaGreat
open Go.RowKit
set_option linter.unusedSimpArgs false
set_option linter.unusedVariables false
set_option maxRecDepth 10000 in
set_option maxHeartbeats 2000000 in
theorem wSplit_any (a : Option Addr) (n c : Nat) (z : Nat → Int) (l i : Int) (w : World) (H : Wr n z) (hc : n ≤ c) (h : Row w a (n * 3) fun i => .int .i64 (z i)) :
    Calls Tryz.prog 151 #[.slice a n c, .int .i64 l, .int .i64 i] w fun e w' => e = .returned (.tuple #[.slice a (posW n z l i) c, .slice (wFrom a c (posW n z l i)) (toW n z l i - posW n z l i) (c - posW n z l i), .slice (wFrom a c (toW n z l i)) (n - toW n z l i) (c - toW n z l i)]) ∧ Below w.heap.size w w' := by
  have hn := H.few
  have CP := hide (wPlace_any a n c z l i w (by omega) h)
  have hp := posW_le n z l i
  have ht := toW_le (l := l) (i := i) H
  have hpt : posW n z l i ≤ toW n z l i := by unfold toW; cases hasW n z l i <;> simp only [cond_true, cond_false] <;> omega
  have hs1 := fun W => run_wUpto a n c (posW n z l i) (by omega) W
  have hs2 := fun W => run_wPart a n c (posW n z l i) (toW n z l i) hpt (by omega) W
  have hs3 := fun W => run_wFrom a n c (toW n z l i) ht W
  cases hh : hasW n z l i
  · have et : toW n z l i = posW n z l i := by unfold toW; rw [hh]; rfl
    have HN := hide fun k hk => hasW_no hh k hk
    rw [et] at hs2 hs3 ⊢
    clear et ht hpt hh
    generalize posW n z l i = p at *
    go_enter Tryz.func151, Tryz.ntmps151
    go_wp2_with fail
    refine CP.out.mono ?_
    rintro e w1 ⟨rfl, b1⟩
    clear CP
    by_cases hlt : p < n
    · have i1 : (p : Int) < (n : Int) := by omega
      obtain ⟨b, off, hsa, hbl, d0, d1, d2⟩ := (h.below b1 (Nat.le_refl _)).at3 p hlt
      subst hsa
      clear h
      by_cases v0 : z (p * 3) = l
      · have v1 : ¬ z (p * 3 + 1) = i := fun e => HN.out p hlt ⟨v0, e⟩
        have dv : decide (z (p * 3 + 1) = i) = false := decide_eq_false v1
        have dv' : (z (p * 3 + 1) == i) = false := beq_eq_false_iff_ne.2 v1
        rw [v0] at d0
        clear v0
        go_wp2
        go_quiet (fail)
        go_wp2
        exact bodyPost_ret (v := .tuple #[_, _, _]) (by simp [results, Tryz.results151, go_sem]) rfl ⟨rfl, Below.drawn b1 _⟩
      · have dv : decide (z (p * 3) = l) = false := decide_eq_false v0
        have dv' : (z (p * 3) == l) = false := beq_eq_false_iff_ne.2 v0
        go_wp2
        go_quiet (fail)
        go_wp2
        exact bodyPost_ret (v := .tuple #[_, _, _]) (by simp [results, Tryz.results151, go_sem]) rfl ⟨rfl, Below.drawn b1 _⟩
    · have i1 : ¬ (p : Int) < (n : Int) := by omega
      clear h
      go_wp2
      go_quiet (fail)
      go_wp2
      exact bodyPost_ret (v := .tuple #[_, _, _]) (by simp [results, Tryz.results151, go_sem]) rfl ⟨rfl, Below.drawn b1 _⟩
  · have et : toW n z l i = posW n z l i + 1 := by unfold toW; rw [hh]; rfl
    obtain ⟨hlt, v0, v1⟩ := H.has hh
    rw [et] at hs2 hs3 ⊢
    clear et ht hpt hh
    generalize posW n z l i = p at *
    have i1 : (p : Int) < (n : Int) := by omega
    rw [show ((p + 1 : Nat) : Int) = (p : Int) + 1 by omega] at hs2 hs3
    go_enter Tryz.func151, Tryz.ntmps151
    go_wp2_with fail
    refine CP.out.mono ?_
    rintro e w1 ⟨rfl, b1⟩
    clear CP
    obtain ⟨b, off, hsa, hbl, d0, d1, d2⟩ := (h.below b1 (Nat.le_refl _)).at3 p hlt
    subst hsa
    rw [v0] at d0
    rw [v1] at d1
    clear h v0 v1
    go_wp2
    go_quiet (fail)
    go_wp2
    exact bodyPost_ret (v := .tuple #[_, _, _]) (by simp [results, Tryz.results151, go_sem]) rfl ⟨rfl, Below.drawn b1 _⟩
set_option maxRecDepth 10000 in
set_option maxHeartbeats 2000000 in
theorem find_wc : FindWC := by
  intro a n c z l i w hn hc ha h
  have CR := hide (may_wc a n c z w hn hc h)
  go_enter Tryz.func85, Tryz.ntmps85
  go_wp2_with fail
  refine CR.out.mono ?_
  rintro e w1 ⟨rfl, b1⟩
  have R1 := hide (h.below b1 (Nat.le_refl _))
  clear CR h
  cases hr : writesMay n z
  · have HN : Hid (findIs n z l i = false) := by show findIs n z l i = false; rw [findIs, hr]; rfl
    clear hr
    go_wp2
    go_ret2
    exact ⟨ret_int_bool (find_no HN.out).symm HN.out.symm, b1⟩
  · have H := writesMay_get hr
    have CS := hide fun w h => wSplit_any a n c z l i w H hc h
    cases hh : hasW n z l i
    · have HN : Hid (findIs n z l i = false) := by show findIs n z l i = false; rw [findIs, hr, hh]; rfl
      have et : toW n z l i - posW n z l i = 0 := by unfold toW; rw [hh]; simp
      rw [et] at CS
      clear hr hh et H
      generalize wFrom a c (posW n z l i) = a1, wFrom a c (toW n z l i) = a2 at *
      generalize posW n z l i = p, toW n z l i = t at *
      go_wp2_with fail
      refine (CS.out _ R1.out).mono ?_
      rintro e w2 ⟨rfl, hb⟩
      have b2 := Below.on b1 hb
      clear CS hb b1 R1
      go_wp2
      go_ret2
      exact ⟨ret_int_bool (find_no HN.out).symm HN.out.symm, b2⟩
    · have hF := find_in H (inW_of_has H hh)
      have et : toW n z l i - posW n z l i = 1 := by unfold toW; rw [hh, cond_true]; omega
      have hlt := (H.has hh).1
      have HRR : Hid (∀ w : World, (Row w a (n * 3) fun i => .int .i64 (z i)) → Row w (wFrom a c (posW n z l i)) ((n - posW n z l i) * 3) fun j => .int .i64 (z (posW n z l i * 3 + j))) := fun w h => row_wFrom h (by omega) hc
      rw [et] at CS
      have HF := hide hF
      clear hr hh et H hF
      generalize wFrom a c (posW n z l i) = a1, wFrom a c (toW n z l i) = a2 at *
      generalize posW n z l i = p, toW n z l i = t at *
      go_wp2_with fail
      refine (CS.out _ R1.out).mono ?_
      rintro e w2 ⟨rfl, hb⟩
      have b2 := Below.on b1 hb
      obtain ⟨b, off, e, hbl, cell⟩ := HRR.out _ (R1.out.below hb (Nat.le_refl _)) 2 (by omega)
      subst e
      clear CS hb b1 R1 HRR
      go_wp2
      go_ret2
      exact ⟨ret_int_bool HF.out.2.symm HF.out.1.symm, b2⟩
end Go.Proofs.YtaaenolbfhhnfaaGreat
