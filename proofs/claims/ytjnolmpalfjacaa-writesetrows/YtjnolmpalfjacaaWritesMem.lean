/-
  Lists of writes: are two the same; written over; copied; lent with marked room behind them, looked at again.
-/
import Derived.Test.YtjnolmpalfjacaaAt3
import Derived.Test.YtjnolmpalfjacaaOwn
import Derived.Test.YtjnolmpalfjacaaTouch
import Derived.Laws.AppendOwnNone
import Derived.OwnWalk
import Derived.Deep.AppendLies
namespace Go.Proofs.Ytjnolmpalfjacaa
open Go.RowKit
set_option linter.unusedSimpArgs false

theorem Try.infoWrite : (Try.prog.info? 24).map (fun i => (i.zero, i.size, i.bytes)) = some (some (.agg #[.int .i64 0, .int .i64 0, .int .i64 0]), 3, 24) := by kernel_rfl

set_option maxHeartbeats 1000000 in
theorem sameWrites_any (a a' : Option Addr) (n c n' c' : Nat) (z y : Nat → Int) (w : World) (hn : n ≤ 1152921504606846976) (h : Row w a (n * 3) fun i => .int .i64 (z i)) (h' : Row w a' (n' * 3) fun i => .int .i64 (y i)) :
    Calls Try.prog 13 #[.slice a n c, .slice a' n' c'] w fun e w' => e = .returned (.bool (decide (n = n') && eqTo z y (n * 3))) ∧ ∃ q, w' = w.drewN q := by
  by_cases hnn : n = n'
  · subst hnn
    have hne : ((n : Int) != (n : Int)) = false := by simp
    go_enter Try.func13, Try.ntmps13
    go_wp2
    go_loopw [5] (fun i wr => ∃ k : Nat, k ≤ n ∧ i = .int .i64 k ∧ eqTo z y (k * 3) = true ∧ ∃ q, wr = w.drewN q) (fun i _ => n - (intOf i).toNat)
    case atStart => exact ⟨0, Nat.zero_le _, rfl, rfl, 0, rfl⟩
    case round =>
      obtain ⟨k, hk, rfl, hs, hq⟩ := hrel
      have HQ : Hid (∃ q, wr = w.drewN q) := hq
      replace h : Row wr a (n * 3) fun i => .int .i64 (z i) := by obtain ⟨q, rfl⟩ := hq; exact h
      replace h' : Row wr a' (n * 3) fun i => .int .i64 (y i) := by obtain ⟨q, rfl⟩ := hq; exact h'
      have HS : Hid (eqTo z y (k * 3) = true) := hs
      clear hs hq
      by_cases hlt : k < n
      · obtain ⟨b, off, rfl, hb, c0, c1, c2⟩ := h.at3 k hlt
        obtain ⟨b', off', rfl, hb', d0, d1, d2⟩ := h'.at3 k hlt
        clear h h'
        have i1 : (k : Int) < (n : Int) := by omega
        by_cases v0 : z (k * 3) = y (k * 3)
        · by_cases v1 : z (k * 3 + 1) = y (k * 3 + 1)
          · by_cases v2 : z (k * 3 + 2) = y (k * 3 + 2)
            · have HE : Hid (eqTo z y ((k + 1) * 3) = true) := by
                show eqTo z y ((k + 1) * 3) = true
                rw [show (k + 1) * 3 = k * 3 + 1 + 1 + 1 by omega, eqTo, eqTo, eqTo, HS.out, v0, v1, v2]
                simp
              go_wp2
              go_quiet (fail)
              go_wp2
              go_roundw
              case rel => exact ⟨k + 1, by omega, by go_num, HE.out, drewN_on HQ.out _⟩
              case measure => simp [intOf]; omega
            · have HV : Hid (z (k * 3 + 2) ≠ y (k * 3 + 2)) := v2
              go_wp2
              go_quiet (fail)
              go_wp2
              go_ret
              exact ⟨ret_bool (by simp [eqTo_no (n := n * 3) (k * 3 + 2) (by omega) HV.out]), drewN_on HQ.out _⟩
          · have HV : Hid (z (k * 3 + 1) ≠ y (k * 3 + 1)) := v1
            go_wp2
            go_quiet (fail)
            go_wp2
            go_ret
            exact ⟨ret_bool (by simp [eqTo_no (n := n * 3) (k * 3 + 1) (by omega) HV.out]), drewN_on HQ.out _⟩
        · have HV : Hid (z (k * 3) ≠ y (k * 3)) := v0
          go_wp2
          go_quiet (fail)
          go_wp2
          go_ret
          exact ⟨ret_bool (by simp [eqTo_no (n := n * 3) (k * 3) (by omega) HV.out]), drewN_on HQ.out _⟩
      · obtain rfl : k = n := by omega
        clear h h'
        go_wp2
        go_ret
        exact ⟨ret_bool (by simp [HS.out]), HQ.out⟩
  · have hne : ((n : Int) != (n' : Int)) = true := by simp; omega
    have HN : Hid (n ≠ n') := hnn
    clear hnn h h'
    go_enter Try.func13, Try.ntmps13
    go_wp2
    go_ret
    exact ⟨ret_bool (by simp [HN.out]), 0, rfl⟩


set_option maxHeartbeats 400000 in
theorem spoilWrites_any (b n c : Nat) (z : Nat → Int) (w : World) (hn : n ≤ 1152921504606846976) (h : Own w b (n * 3) (intF z)) :
    Calls Try.prog 19 #[.slice (some ⟨b, 0, none⟩) n c] w fun e w' => e = .returned (.tuple #[]) ∧ (∃ z', Own w' b (n * 3) (intF z')) ∧ Touch b (b + 1) w w' ∧ w'.heap.size = w.heap.size := by
  go_enter Try.func19, Try.ntmps19
  go_wp2
  go_loopw [2] (fun i wr => ∃ (k : Nat) (z : Nat → Int), k ≤ n ∧ i = .int .i64 k ∧ Own wr b (n * 3) (intF z) ∧ Touch b (b + 1) w wr ∧ wr.heap.size = w.heap.size) (fun i _ => n - (intOf i).toNat)
  case atStart => exact ⟨0, z, Nat.zero_le _, rfl, h, Touch.refl _ _ _, rfl⟩
  case round =>
    obtain ⟨k, z, hk, rfl, ho, ht, hs⟩ := hrel
    by_cases hlt : k < n
    · have i1 : (k : Int) < (n : Int) := by omega
      have c0 := ho.cell (i := k * 3 + 1) (by omega)
      have f0 := ho.frozen (k * 3 + 1)
      unfold intF at c0
      have HS := hide hs
      clear hs
      go_wp2
      go_roundw
      case rel => exact ⟨k + 1, _, by omega, by go_num, ho.setInt _ _, ht.setCell (by simp) (by simp) _, by rw [World.size_setCell]; exact HS.out⟩
      case measure => simp [intOf]; omega
    · go_wp2
      go_end0
      exact ⟨rfl, ⟨z, ho⟩, ht, hs⟩

theorem spoilWrites_none (a : Option Addr) (c : Nat) (w : World) :
    Calls Try.prog 19 #[.slice a 0 c] w fun e w' => e = .returned (.tuple #[]) ∧ w = w' := by
  go_enter Try.func19, Try.ntmps19
  go_wp2
  go_loop [2] (fun i => i = .int .i64 0) (fun _ => 0)
  case atStart => rfl
  case round =>
    subst hrel
    go_wp2
    go_end0
    exact ⟨rfl, rfl⟩



set_option maxHeartbeats 1000000 in
theorem copyWrites_any (a : Option Addr) (n c : Nat) (z : Nat → Int) (w : World) (hn : n * 24 ≤ 140737488351232) (ha : a = none → n = 0 ∧ c = 0) (h : Row w a (n * 3) fun i => .int .i64 (z i)) :
    Calls Try.prog 22 #[.slice a n c] w fun e w' => ∃ v, e = .returned v ∧ w'.ownsRow w.heap.size 24 3 v n (rowL (intF z) (n * 3)) ∧ Below w.heap.size w w' := by
  obtain ⟨i0, hi, hz0, hz1, hz2⟩ := info_parts Try.infoWrite
  have hown : (w.alloc (.cells #[] 24)).ownsRow w.heap.size 24 3 (.slice (some ⟨w.heap.size, 0, none⟩) 0 0) 0 [] := World.ownsRow_made w #[] 0 (Nat.le_refl _) (by decide) rfl
  have HO := hide hown
  clear hown
  cases hsa : a with
  | none =>
    obtain ⟨hn0, hc0⟩ := ha hsa
    subst hn0 hc0
    clear ha h hsa
    go_enter Try.func22, Try.ntmps22
    go_wp2
    go_ret
    exact ⟨_, rfl, HO.out, (Below.refl _ _).alloc (Nat.le_refl _) _⟩
  | some ad =>
    rw [hsa] at h
    have HR := hide (h.below ((Below.refl w.heap.size w).alloc (Nat.le_refl _) (.cells #[] 24)) (Nat.le_refl _)).news
    have HL := hide (rowL_len (intF z) (n * 3))
    have H1 := hide (rowL_one (f := intF z) (m := n * 3) fun _ _ => rfl)
    clear h ha hsa
    go_enter Try.func22, Try.ntmps22
    go_wp2_with (at_builtin; refine wpList_append_own _ rfl (.tmp 3) (.tmp 4) 22 rfl w.heap.size 24 i0 (.agg #[.int .i64 0, .int .i64 0, .int .i64 0]) 3 24 Try.underlying22 hi hz0 hz1 hz2 rfl (by decide) _ _ _ rfl (unhide HO) ad n c (rowL (intF z) (n * 3)) rfl (unhide HL) (unhide HR) (unhide H1) ?_ ?_ ?_ ?_)
    · unfold maxLen; omega
    · omega
    · simp
    · intro v' w1 hown' hg _
      have bw : Below w.heap.size w w1 := ((Below.refl w.heap.size w).alloc (Nat.le_refl _) (.cells #[] 24)).grown hg (by simp) (by intro j hj; simp [Value.ownBlock] at hj; omega)
      have hown2 : w1.ownsRow w.heap.size 24 3 v' n (rowL (intF z) (n * 3)) := by simpa using hown'
      have HO2 := hide hown2
      clear hown' hg hown2 HO HR HL H1
      go_wp2
      go_ret
      exact ⟨_, rfl, HO2.out, bw⟩

/-- A list with the marks behind it. -/
def lentW (z : Nat → Int) (n : Nat) (i : Nat) : Int := if i < n * 3 then z i else if i = n * 3 + 1 then 77777 else if i = n * 3 + 4 then 77777 else 0
theorem lentW_row (z : Nat → Int) (n : Nat) : rowL (intF z) (n * 3) ++ [.int .i64 0, .int .i64 77777, .int .i64 0, .int .i64 0, .int .i64 77777, .int .i64 0] = rowL (intF (lentW z n)) ((n + 2) * 3) := by
  rw [show (n + 2) * 3 = n * 3 + 6 by omega, rowL_add]
  congr 1
  · exact rowL_congr fun i hi => by unfold intF lentW; rw [if_pos hi]
  · have e : ∀ j, j < 6 → intF (lentW z n) (n * 3 + j) = .int .i64 (if j = 1 then 77777 else if j = 4 then 77777 else 0) := by
      intro j hj
      unfold intF lentW
      rw [if_neg (by omega)]
      congr 1
      split
      · rw [if_pos (by omega)]
      · split
        · rw [if_neg (by omega), if_pos (by omega)]
        · rw [if_neg (by omega), if_neg (by omega)]
    show _ = [intF (lentW z n) (n * 3 + 0), intF (lentW z n) (n * 3 + 1), intF (lentW z n) (n * 3 + 2), intF (lentW z n) (n * 3 + 3), intF (lentW z n) (n * 3 + 4), intF (lentW z n) (n * 3 + 5)]
    rw [e 0 (by omega), e 1 (by omega), e 2 (by omega), e 3 (by omega), e 4 (by omega), e 5 (by omega)]
    rfl

set_option maxHeartbeats 1000000 in
theorem lendWrites_any (a : Option Addr) (n c : Nat) (z : Nat → Int) (w : World) (hn : n * 24 ≤ 140737488351232) (ha : a = none → n = 0 ∧ c = 0) (h : Row w a (n * 3) fun i => .int .i64 (z i)) :
    Calls Try.prog 8 #[.slice a n c] w fun e w' => ∃ g cap, e = .returned (.slice (some ⟨g, 0, none⟩) n cap) ∧ w.heap.size ≤ g ∧ n + 2 ≤ cap ∧ Own w' g ((n + 2) * 3) (intF (lentW z n)) ∧ Below w.heap.size w w' := by
  obtain ⟨i0, hi, hz0, hz1, hz2⟩ := info_parts Try.infoWrite
  go_enter Try.func8, Try.ntmps8
  go_wp2_with fail
  refine (copyWrites_any a n c z w hn ha h).mono ?_
  rintro e w1 ⟨v, rfl, hown, hbel⟩
  have s1 := hbel.size
  have HO := hide (hown.alloc (.cells #[.int .i64 0, .int .i64 77777, .int .i64 0, .int .i64 0, .int .i64 77777, .int .i64 0] 24))
  have HB := hide (hbel.alloc s1 (.cells #[.int .i64 0, .int .i64 77777, .int .i64 0, .int .i64 0, .int .i64 77777, .int .i64 0] 24))
  have HW := hide (owns_block hown)
  have HNW := hide (World.news_of_block (cs := #[.int .i64 0, .int .i64 77777, .int .i64 0, .int .i64 0, .int .i64 77777, .int .i64 0]) (t := 24) (fr := (0, 0)) (heap_alloc_new w1 (.cells #[.int .i64 0, .int .i64 77777, .int .i64 0, .int .i64 0, .int .i64 77777, .int .i64 0] 24)))
  clear hown hbel h ha
  go_wp2_with (at_builtin; refine wpList_append_own _ rfl (.tmp 5) (.tmp 8) 22 rfl w.heap.size 24 i0 (.agg #[.int .i64 0, .int .i64 0, .int .i64 0]) 3 24 Try.underlying22 hi hz0 hz1 hz2 rfl (by decide) _ _ _ rfl (unhide HO) ⟨w1.heap.size, 0, none⟩ 2 2 [.int .i64 0, .int .i64 77777, .int .i64 0, .int .i64 0, .int .i64 77777, .int .i64 0] rfl rfl (unhide HNW) ?_ ?_ ?_ ?_ ?_)
  · simp [Value.oneCell']
  · unfold maxLen; omega
  · omega
  · simp; omega
  · intro v' w2 hown' hg _
    have hown2 : w2.ownsRow w.heap.size 24 3 v' (n + 2) (rowL (intF (lentW z n)) ((n + 2) * 3)) := by rw [← lentW_row]; exact hown'
    have bw : Below w.heap.size w w2 := HB.out.grown hg (by simp; omega) HW.out
    rcases own_of_owns hown2 with ⟨_, h0⟩ | ⟨g, cap, rfl, hg1, hc, hcm, ho⟩
    · omega
    · have HW2 := hide ho
      have i1 : (n : Int) ≤ (cap : Int) := by omega
      clear hown' hg hown2 HO HB HW HNW ho
      go_wp2
      go_ret
      exact ⟨g, cap, rfl, hg1, hc, HW2.out, bw⟩

set_option maxRecDepth 10000 in
set_option maxHeartbeats 1000000 in
theorem keptWrites_yes (g cap : Nat) (a : Option Addr) (n c : Nat) (z : Nat → Int) (w : World) (hn : n * 24 ≤ 140737488351232) (hcap : n + 2 ≤ cap) (hl : Own w g ((n + 2) * 3) (intF (lentW z n))) (h : Row w a (n * 3) fun i => .int .i64 (z i)) :
    Calls Try.prog 20 #[.slice (some ⟨g, 0, none⟩) n cap, .slice a n c] w fun e w' => e = .returned (.bool true) ∧ ∃ q, w' = w.drewN q := by
  have i1 : (n : Int) + 2 ≤ (cap : Int) := by omega
  have i2 : ((n : Int) + 2).toNat = n + 2 := by omega
  have i3 : ((n : Int) + 1).toNat = n + 1 := by omega
  have hsame : eqTo (lentW z n) z (n * 3) = true := eqTo_mk fun i hi => if_pos hi
  have C := sameWrites_any (some ⟨g, 0, none⟩) a n cap n c (lentW z n) z w (by omega) (hl.row.less (by omega)) h
  rw [hsame] at C
  simp only [decide_true, Bool.and_self] at C
  have CC := hide C
  have e : ∀ j, j < 6 → lentW z n (n * 3 + j) = (if j = 1 then 77777 else if j = 4 then 77777 else 0) := by
    intro j hj
    unfold lentW
    rw [if_neg (by omega)]
    split
    · rw [if_pos (by omega)]
    · split
      · rw [if_neg (by omega), if_pos (by omega)]
      · rw [if_neg (by omega), if_neg (by omega)]
  have HC : Hid (∀ j, j < 6 → w.cell? ⟨g, n * 3 + j, none⟩ = some (.int .i64 (if j = 1 then 77777 else if j = 4 then 77777 else 0))) := fun j hj => by
    rw [← e j hj]
    exact hl.cell (i := n * 3 + j) (by omega)
  clear C hsame hl h e
  go_enter Try.func20, Try.ntmps20
  go_wp2_with fail
  refine CC.out.mono ?_
  rintro e w1 ⟨rfl, q, rfl⟩
  have c0 : (w.drewN q).cell? ⟨g, n * 3, none⟩ = some (.int .i64 0) := HC.out 0 (by omega)
  have c1 : (w.drewN q).cell? ⟨g, n * 3 + 1, none⟩ = some (.int .i64 77777) := HC.out 1 (by omega)
  have c2 : (w.drewN q).cell? ⟨g, n * 3 + 2, none⟩ = some (.int .i64 0) := HC.out 2 (by omega)
  have d0 : (w.drewN q).cell? ⟨g, (n + 1) * 3, none⟩ = some (.int .i64 0) := by have := HC.out 3 (by omega); rw [show (n + 1) * 3 = n * 3 + 3 by omega]; exact this
  have d1 : (w.drewN q).cell? ⟨g, (n + 1) * 3 + 1, none⟩ = some (.int .i64 77777) := by have := HC.out 4 (by omega); rw [show (n + 1) * 3 + 1 = n * 3 + 4 by omega]; exact this
  have d2 : (w.drewN q).cell? ⟨g, (n + 1) * 3 + 2, none⟩ = some (.int .i64 0) := by have := HC.out 5 (by omega); rw [show (n + 1) * 3 + 2 = n * 3 + 5 by omega]; exact this
  have HD : Hid (∃ q', w.drewN q = w.drewN q') := ⟨q, rfl⟩
  generalize w.drewN q = W at *
  clear HC CC
  go_wp2
  go_ret
  exact ⟨rfl, HD.out⟩

end Go.Proofs.Ytjnolmpalfjacaa
