/-
  Lists of instructions, copied, lent with marked room behind them, looked at again.
-/
import Derived.Test.YtlaanhkmoficbaaInstsMem
namespace Go.Proofs.Ytlaanhkmoficbaa
open Go.RowKit
set_option linter.unusedSimpArgs false

set_option maxHeartbeats 1000000 in
theorem copyInsts_any (a : Option Addr) (n c : Nat) (z : Nat → Int) (w : World) (hn : n * 32 ≤ 140737488351232) (ha : a = none → n = 0 ∧ c = 0) (h : Row w a (n * 4) fun i => .int .i64 (z i)) :
    Calls Try.prog 17 #[.slice a n c] w fun e w' => ∃ v, e = .returned v ∧ w'.ownsRow w.heap.size 43 4 v n (rowL (intF z) (n * 4)) ∧ Below w.heap.size w w' := by
  obtain ⟨i0, hi, hz0, hz1, hz2⟩ := info_parts Try.infoInst
  have hown : (w.alloc (.cells #[] 43)).ownsRow w.heap.size 43 4 (.slice (some ⟨w.heap.size, 0, none⟩) 0 0) 0 [] := World.ownsRow_made w #[] 0 (Nat.le_refl _) (by decide) rfl
  have HO := hide hown
  clear hown
  cases hsa : a with
  | none =>
    obtain ⟨hn0, hc0⟩ := ha hsa
    subst hn0 hc0
    clear ha h hsa
    go_enter Try.func17, Try.ntmps17
    go_wp2
    go_ret
    exact ⟨_, rfl, HO.out, (Below.refl _ _).alloc (Nat.le_refl _) _⟩
  | some ad =>
    rw [hsa] at h
    have HR := hide (h.below ((Below.refl w.heap.size w).alloc (Nat.le_refl _) (.cells #[] 43)) (Nat.le_refl _)).news
    have HL := hide (rowL_len (intF z) (n * 4))
    have H1 := hide (rowL_one (f := intF z) (m := n * 4) fun _ _ => rfl)
    clear h ha hsa
    go_enter Try.func17, Try.ntmps17
    go_wp2_with (at_builtin; refine wpList_append_own _ rfl (.tmp 3) (.tmp 4) 22 rfl w.heap.size 43 i0 (.agg #[.int .i64 0, .int .i64 0, .int .i64 0, .int .i64 0]) 4 32 Try.underlying22 hi hz0 hz1 hz2 rfl (by decide) _ _ _ rfl (unhide HO) ad n c (rowL (intF z) (n * 4)) rfl (unhide HL) (unhide HR) (unhide H1) ?_ ?_ ?_ ?_)
    · unfold maxLen; omega
    · omega
    · simp
    · intro v' w1 hown' hg _
      have bw : Below w.heap.size w w1 := ((Below.refl w.heap.size w).alloc (Nat.le_refl _) (.cells #[] 43)).grown hg (by simp) (by intro j hj; simp [Value.ownBlock] at hj; omega)
      have hown2 : w1.ownsRow w.heap.size 43 4 v' n (rowL (intF z) (n * 4)) := by simpa using hown'
      have HO2 := hide hown2
      clear hown' hg hown2 HO HR HL H1
      go_wp2
      go_ret
      exact ⟨_, rfl, HO2.out, bw⟩

/-- A list with the marks behind it. -/
def lentI (z : Nat → Int) (n : Nat) (i : Nat) : Int := if i < n * 4 then z i else if i = n * 4 + 1 then 77777 else if i = n * 4 + 5 then 77777 else 0
theorem lentI_row (z : Nat → Int) (n : Nat) : rowL (intF z) (n * 4) ++ [.int .i64 0, .int .i64 77777, .int .i64 0, .int .i64 0, .int .i64 0, .int .i64 77777, .int .i64 0, .int .i64 0] = rowL (intF (lentI z n)) ((n + 2) * 4) := by
  rw [show (n + 2) * 4 = n * 4 + 8 by omega, rowL_add]
  congr 1
  · exact rowL_congr fun i hi => by unfold intF lentI; rw [if_pos hi]
  · have e : ∀ j, j < 8 → intF (lentI z n) (n * 4 + j) = .int .i64 (if j = 1 then 77777 else if j = 5 then 77777 else 0) := by
      intro j hj
      unfold intF lentI
      rw [if_neg (by omega)]
      congr 1
      split
      · rw [if_pos (by omega)]
      · split
        · rw [if_neg (by omega), if_pos (by omega)]
        · rw [if_neg (by omega), if_neg (by omega)]
    show _ = [intF (lentI z n) (n * 4 + 0), intF (lentI z n) (n * 4 + 1), intF (lentI z n) (n * 4 + 2), intF (lentI z n) (n * 4 + 3), intF (lentI z n) (n * 4 + 4), intF (lentI z n) (n * 4 + 5), intF (lentI z n) (n * 4 + 6), intF (lentI z n) (n * 4 + 7)]
    rw [e 0 (by omega), e 1 (by omega), e 2 (by omega), e 3 (by omega), e 4 (by omega), e 5 (by omega), e 6 (by omega), e 7 (by omega)]
    rfl

set_option maxHeartbeats 1000000 in
theorem lendInsts_any (a : Option Addr) (n c : Nat) (z : Nat → Int) (w : World) (hn : n * 32 ≤ 140737488351232) (ha : a = none → n = 0 ∧ c = 0) (h : Row w a (n * 4) fun i => .int .i64 (z i)) :
    Calls Try.prog 7 #[.slice a n c] w fun e w' => ∃ g cap, e = .returned (.slice (some ⟨g, 0, none⟩) n cap) ∧ w.heap.size ≤ g ∧ n + 2 ≤ cap ∧ Own w' g ((n + 2) * 4) (intF (lentI z n)) ∧ Below w.heap.size w w' := by
  obtain ⟨i0, hi, hz0, hz1, hz2⟩ := info_parts Try.infoInst
  go_enter Try.func7, Try.ntmps7
  go_wp2_with fail
  refine (copyInsts_any a n c z w hn ha h).mono ?_
  rintro e w1 ⟨v, rfl, hown, hbel⟩
  have s1 := hbel.size
  have HO := hide (hown.alloc (.cells #[.int .i64 0, .int .i64 77777, .int .i64 0, .int .i64 0, .int .i64 0, .int .i64 77777, .int .i64 0, .int .i64 0] 43))
  have HB := hide (hbel.alloc s1 (.cells #[.int .i64 0, .int .i64 77777, .int .i64 0, .int .i64 0, .int .i64 0, .int .i64 77777, .int .i64 0, .int .i64 0] 43))
  have HW := hide (owns_block hown)
  have HNW := hide (World.news_of_block (cs := #[.int .i64 0, .int .i64 77777, .int .i64 0, .int .i64 0, .int .i64 0, .int .i64 77777, .int .i64 0, .int .i64 0]) (t := 43) (fr := (0, 0)) (heap_alloc_new w1 (.cells #[.int .i64 0, .int .i64 77777, .int .i64 0, .int .i64 0, .int .i64 0, .int .i64 77777, .int .i64 0, .int .i64 0] 43)))
  clear hown hbel h ha
  go_wp2_with (at_builtin; refine wpList_append_own _ rfl (.tmp 5) (.tmp 8) 22 rfl w.heap.size 43 i0 (.agg #[.int .i64 0, .int .i64 0, .int .i64 0, .int .i64 0]) 4 32 Try.underlying22 hi hz0 hz1 hz2 rfl (by decide) _ _ _ rfl (unhide HO) ⟨w1.heap.size, 0, none⟩ 2 2 [.int .i64 0, .int .i64 77777, .int .i64 0, .int .i64 0, .int .i64 0, .int .i64 77777, .int .i64 0, .int .i64 0] rfl rfl (unhide HNW) ?_ ?_ ?_ ?_ ?_)
  · simp [Value.oneCell']
  · unfold maxLen; omega
  · omega
  · simp; omega
  · intro v' w2 hown' hg _
    have hown2 : w2.ownsRow w.heap.size 43 4 v' (n + 2) (rowL (intF (lentI z n)) ((n + 2) * 4)) := by rw [← lentI_row]; exact hown'
    have bw : Below w.heap.size w w2 := HB.out.grown hg (by simp; omega) HW.out
    rcases own_of_owns hown2 with ⟨_, h0⟩ | ⟨g, cap, rfl, hg1, hc, hcm, ho⟩
    · omega
    · have HW2 := hide ho
      have i1 : (n : Int) ≤ (cap : Int) := by omega
      clear hown' hg hown2 HO HB HW HNW ho
      go_wp2
      go_ret
      exact ⟨g, cap, rfl, hg1, hc, HW2.out, bw⟩

set_option maxRecDepth 10000 in
set_option maxHeartbeats 1000000 in
theorem keptInsts_yes (g cap : Nat) (a : Option Addr) (n c : Nat) (z : Nat → Int) (w : World) (hn : n * 32 ≤ 140737488351232) (hcap : n + 2 ≤ cap) (hl : Own w g ((n + 2) * 4) (intF (lentI z n))) (h : Row w a (n * 4) fun i => .int .i64 (z i)) :
    Calls Try.prog 15 #[.slice (some ⟨g, 0, none⟩) n cap, .slice a n c] w fun e w' => e = .returned (.bool true) ∧ ∃ q, w' = w.drewN q := by
  have i1 : (n : Int) + 2 ≤ (cap : Int) := by omega
  have i2 : ((n : Int) + 2).toNat = n + 2 := by omega
  have i3 : ((n : Int) + 1).toNat = n + 1 := by omega
  have hsame : eqTo (lentI z n) z (n * 4) = true := eqTo_mk fun i hi => if_pos hi
  have C := sameInsts_any (some ⟨g, 0, none⟩) a n cap n c (lentI z n) z w (by omega) (hl.row.less (by omega)) h
  rw [hsame] at C
  simp only [decide_true, Bool.and_self] at C
  have CC := hide C
  have e : ∀ j, j < 8 → lentI z n (n * 4 + j) = (if j = 1 then 77777 else if j = 5 then 77777 else 0) := by
    intro j hj
    unfold lentI
    rw [if_neg (by omega)]
    split
    · rw [if_pos (by omega)]
    · split
      · rw [if_neg (by omega), if_pos (by omega)]
      · rw [if_neg (by omega), if_neg (by omega)]
  have HC : Hid (∀ j, j < 8 → w.cell? ⟨g, n * 4 + j, none⟩ = some (.int .i64 (if j = 1 then 77777 else if j = 5 then 77777 else 0))) := fun j hj => by
    rw [← e j hj]
    exact hl.cell (i := n * 4 + j) (by omega)
  clear C hsame hl h e
  go_enter Try.func15, Try.ntmps15
  go_wp2_with fail
  refine CC.out.mono ?_
  rintro e w1 ⟨rfl, q, rfl⟩
  have c0 : (w.drewN q).cell? ⟨g, n * 4, none⟩ = some (.int .i64 0) := HC.out 0 (by omega)
  have c1 : (w.drewN q).cell? ⟨g, n * 4 + 1, none⟩ = some (.int .i64 77777) := HC.out 1 (by omega)
  have c2 : (w.drewN q).cell? ⟨g, n * 4 + 2, none⟩ = some (.int .i64 0) := HC.out 2 (by omega)
  have c3 : (w.drewN q).cell? ⟨g, n * 4 + 3, none⟩ = some (.int .i64 0) := HC.out 3 (by omega)
  have d0 : (w.drewN q).cell? ⟨g, (n + 1) * 4, none⟩ = some (.int .i64 0) := by have := HC.out 4 (by omega); rw [show (n + 1) * 4 = n * 4 + 4 by omega]; exact this
  have d1 : (w.drewN q).cell? ⟨g, (n + 1) * 4 + 1, none⟩ = some (.int .i64 77777) := by have := HC.out 5 (by omega); rw [show (n + 1) * 4 + 1 = n * 4 + 5 by omega]; exact this
  have d2 : (w.drewN q).cell? ⟨g, (n + 1) * 4 + 2, none⟩ = some (.int .i64 0) := by have := HC.out 6 (by omega); rw [show (n + 1) * 4 + 2 = n * 4 + 6 by omega]; exact this
  have d3 : (w.drewN q).cell? ⟨g, (n + 1) * 4 + 3, none⟩ = some (.int .i64 0) := by have := HC.out 7 (by omega); rw [show (n + 1) * 4 + 3 = n * 4 + 7 by omega]; exact this
  have HD : Hid (∃ q', w.drewN q = w.drewN q') := ⟨q, rfl⟩
  generalize w.drewN q = W at *
  clear HC CC
  go_wp2
  go_ret
  exact ⟨rfl, HD.out⟩

end Go.Proofs.Ytlaanhkmoficbaa
