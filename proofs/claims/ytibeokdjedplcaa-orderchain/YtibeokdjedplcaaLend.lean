/-
  Lists of integers that the laws copy, lend with marked room behind them, and look at again: by their contracts.
-/
import Derived.Test.YtibeokdjedplcaaOrderRef
import Derived.Laws.AppendOwnNone
import Derived.Handy
namespace Go.Proofs.Ytibeokdjedplcaa
open Go.RowKit

theorem Try.infoInt : (Try.prog.info? 3).map (fun i => (i.zero, i.size, i.bytes)) = some (some (.int .i64 0), 1, 8) := by kernel_rfl

/-- The numbers of the first n places, as cells. -/
def ints (z : Nat → Int) (n : Nat) : List Value := (List.range n).map fun i => .int .i64 (z i)
theorem ints_len (z : Nat → Int) (n : Nat) : (ints z n).length = n := by simp [ints]
theorem ints_get {z : Nat → Int} {n i : Nat} (h : i < n) : (ints z n)[i]? = some (.int .i64 (z i)) := by simp [ints, h]
theorem ints_one (z : Nat → Int) (n : Nat) : ∀ u ∈ ints z n, u.oneCell' = true := by
  intro u hu
  simp only [ints, List.mem_map] at hu
  obtain ⟨i, _, rfl⟩ := hu
  rfl

/-- A row's cells, as the law of append asks for them. -/
theorem row_news {w : World} {ad : Addr} {n : Nat} {z : Nat → Int} (h : Row w (some ad) n fun i => .int .i64 (z i)) : ∀ j u, (ints z n)[j]? = some u → w.cell? (ad.add j) = some u := by
  intro j u hu
  have hj : j < n := by
    have := (List.getElem?_eq_some_iff.1 hu).1
    simpa [ints] using this
  rw [ints_get hj] at hu
  obtain ⟨b, off, e, _, hc⟩ := h j hj
  obtain rfl := Option.some.inj e
  obtain rfl := Option.some.inj hu
  have hadd : (⟨b, off, none⟩ : Addr).add j = ⟨b, off + j, none⟩ := by unfold Addr.add; split <;> simp_all
  rw [hadd]
  exact hc

theorem copyInts_any (a : Option Addr) (n c : Nat) (z : Nat → Int) (w : World) (hn : n * 8 ≤ 140737488355328) (ha : a = none → n = 0 ∧ c = 0) (h : Row w a n fun i => .int .i64 (z i)) :
    Calls Try.prog 17 #[.slice a n c] w fun e w' => ∃ v, e = .returned v ∧ w'.ownsRow w.heap.size 3 1 v n (ints z n) ∧ Below w.heap.size w w' := by
  obtain ⟨i0, hi, hz0, hz1, hz2⟩ := info_parts Try.infoInt
  cases a with
  | none =>
    obtain ⟨rfl, rfl⟩ := ha rfl
    clear h ha
    go_enter Try.func17, Try.ntmps17
    go_wp2
    go_ret
    exact ⟨_, rfl, World.ownsRow_made w #[] 0 (Nat.le_refl _) (by decide) rfl, (Below.refl _ _).alloc (Nat.le_refl _) _⟩
  | some ad =>
    have hown : (w.alloc (.cells #[] 3)).ownsRow w.heap.size 3 1 (.slice (some ⟨w.heap.size, 0, none⟩) 0 0) 0 [] := World.ownsRow_made w #[] 0 (Nat.le_refl _) (by decide) rfl
    have hrow := row_news (h.below ((Below.refl w.heap.size w).alloc (Nat.le_refl _) (.cells #[] 3)) (Nat.le_refl _))
    have hlen := ints_len z n
    have hone := ints_one z n
    have HB : Below w.heap.size w (w.alloc (.cells #[] 3)) := (Below.refl _ _).alloc (Nat.le_refl _) _
    have HO := hide hown
    have HR := hide hrow
    have HL := hide hlen
    have H1 := hide hone
    clear h ha hown hrow hlen hone
    go_enter Try.func17, Try.ntmps17
    go_wp2_with (at_builtin; refine wpList_append_own _ rfl (.tmp 3) (.tmp 4) 22 rfl w.heap.size 3 i0 (.int .i64 0) 1 8 Try.underlying22 hi hz0 hz1 hz2 rfl (by decide) _ _ _ rfl (unhide HO) ad n c (ints z n) rfl ?_ (unhide HR) (unhide H1) ?_ ?_ ?_ ?_)
    · rw [unhide HL]; omega
    · unfold maxLen; omega
    · omega
    · simp
    · intro v' w1 hown' hg _
      go_wp2
      go_ret
      refine ⟨_, rfl, ?_, ?_⟩
      · simpa using hown'
      · exact HB.grown hg (by simp) (by intro k hk; simp [Value.ownBlock] at hk; omega)

/-- A list with the marks behind it. -/
def lentZ (z : Nat → Int) (n : Nat) (i : Nat) : Int := if i < n then z i else if i = n then -7777 else -8888

theorem lent_row {w : World} {base : Nat} {e : TypeId} {v : Value} {n : Nat} {z : Nat → Int} (h : w.ownsRow base e 1 v (n + 2) (ints z n ++ [.int .i64 (-7777), .int .i64 (-8888)])) :
    ∃ g cap, v = .slice (some ⟨g, 0, none⟩) (n + 2) cap ∧ base ≤ g ∧ n + 2 ≤ cap ∧ Row w (some ⟨g, 0, none⟩) (n + 2) fun i => .int .i64 (lentZ z n i) := by
  obtain ⟨a, cap, rfl, hc, _, hr⟩ := row_of_owns h
  have hrow := hr (fun i => .int .i64 (lentZ z n i)) (by
    intro i hi
    unfold lentZ
    by_cases h1 : i < n
    · rw [List.getElem?_append_left (by rw [ints_len]; exact h1), ints_get h1, if_pos h1]
    · rw [List.getElem?_append_right (by rw [ints_len]; omega), ints_len, if_neg h1]
      by_cases h2 : i = n
      · subst h2; simp
      · obtain rfl : i = n + 1 := by omega
        rw [show n + 1 - n = 1 by omega, if_neg h2]
        rfl)
  obtain ⟨_, h2⟩ := h
  rcases h2 with ⟨h3, h4⟩ | ⟨g, cap', cur, h3, hg, _⟩
  · omega
  · simp only [Value.slice.injEq] at h3
    obtain ⟨rfl, _, rfl⟩ := h3
    exact ⟨g, cap, rfl, hg, hc, hrow⟩

set_option maxHeartbeats 400000 in
theorem lendInts_any (a : Option Addr) (n c : Nat) (z : Nat → Int) (w : World) (hn : n * 8 ≤ 140737488351232) (ha : a = none → n = 0 ∧ c = 0) (h : Row w a n fun i => .int .i64 (z i)) :
    Calls Try.prog 8 #[.slice a n c] w fun e w' => ∃ g cap, e = .returned (.slice (some ⟨g, 0, none⟩) n cap) ∧ w.heap.size ≤ g ∧ n + 2 ≤ cap ∧ Row w' (some ⟨g, 0, none⟩) (n + 2) (fun i => .int .i64 (lentZ z n i)) ∧ Below w.heap.size w w' := by
  obtain ⟨i0, hi, hz0, hz1, hz2⟩ := info_parts Try.infoInt
  go_enter Try.func8, Try.ntmps8
  go_wp2_with fail
  refine (copyInts_any a n c z w (by omega) ha h).mono ?_
  rintro e w1 ⟨v, rfl, hown, hbel⟩
  have HO := hide (hown.alloc (.cells #[.int .i64 (-7777), .int .i64 (-8888)] 3))
  have HB := hide (hbel.alloc hbel.size (.cells #[.int .i64 (-7777), .int .i64 (-8888)] 3))
  have HL := hide (ints_len z n)
  have HS := hide hbel.size
  have HW := hide (owns_block hown)
  clear hown hbel h ha
  go_wp2_with (at_builtin; refine wpList_append_own _ rfl (.tmp 5) (.tmp 6) 22 rfl w.heap.size 3 i0 (.int .i64 0) 1 8 Try.underlying22 hi hz0 hz1 hz2 rfl (by decide) _ _ _ rfl (unhide HO) ⟨w1.heap.size, 0, none⟩ 2 2 [.int .i64 (-7777), .int .i64 (-8888)] rfl rfl ?_ ?_ ?_ ?_ ?_ ?_)
  · intro j u hj
    match j, hj with
    | 0, hj => simp at hj; subst hj; simp [Addr.add]
    | 1, hj => simp at hj; subst hj; simp [Addr.add]
    | j + 2, hj => simp at hj
  · intro u hu; simp at hu; rcases hu with rfl | rfl <;> rfl
  · unfold maxLen; omega
  · omega
  · have := unhide HS; simp; omega
  · intro v' w2 hown' hg _
    obtain ⟨g, cap, rfl, hgb, hcap, hrow⟩ := lent_row hown'
    have HR := hide hrow
    have HB2 : Hid (Below w.heap.size w w2) := (unhide HB).grown hg (by have := unhide HS; simp; omega) (unhide HW)
    clear hown' hg hrow HW
    have i1 : (n : Int) ≤ (cap : Int) := by omega
    go_wp2
    go_ret
    exact ⟨g, cap, rfl, hgb, hcap, unhide HR, unhide HB2⟩

set_option maxHeartbeats 400000 in
theorem keptInts_yes (g cap : Nat) (a : Option Addr) (n c : Nat) (z : Nat → Int) (w : World) (hn : n * 8 ≤ 140737488351232) (hcap : n + 2 ≤ cap) (hl : Row w (some ⟨g, 0, none⟩) (n + 2) fun i => .int .i64 (lentZ z n i)) (h : Row w a n fun i => .int .i64 (z i)) :
    Calls Try.prog 14 #[.slice (some ⟨g, 0, none⟩) n cap, .slice a n c] w fun e w' => e = .returned (.bool true) ∧ ∃ q, w' = w.drewN q := by
  have i1 : (n : Int) + 2 ≤ (cap : Int) := by omega
  have i2 : ((n : Int) + 2).toNat = n + 2 := by omega
  have i3 : ((n : Int) + 1).toNat = n + 1 := by omega
  have hs : ∀ i, i < n → lentZ z n i = z i := fun i hi => if_pos hi
  have hsame : sameTo (lentZ z n) z n = true := sameTo_mk hs
  have c1 : w.cell? ⟨g, n, none⟩ = some (.int .i64 (-7777)) := by
    obtain ⟨b, off, e, _, hc⟩ := hl n (by omega)
    simp only [Option.some.injEq, Addr.mk.injEq] at e
    obtain ⟨rfl, rfl, _⟩ := e
    simpa [lentZ] using hc
  have c2 : w.cell? ⟨g, n + 1, none⟩ = some (.int .i64 (-8888)) := by
    obtain ⟨b, off, e, _, hc⟩ := hl (n + 1) (by omega)
    simp only [Option.some.injEq, Addr.mk.injEq] at e
    obtain ⟨rfl, rfl, _⟩ := e
    simpa [lentZ, show ¬ n + 1 < n by omega] using hc
  go_enter Try.func14, Try.ntmps14
  go_wp2_with fail
  refine (sameInts_any _ _ n cap n c (lentZ z n) z _ (by omega) (hl.less (by omega)) h).mono ?_
  rintro e w' ⟨rfl, q, rfl⟩
  clear hl h hs
  rw [hsame]
  go_wp2
  go_ret
  exact ⟨rfl, q, rfl⟩

end Go.Proofs.Ytibeokdjedplcaa
