/-
  A list of labels that a law makes out of any integers, one a round: what the loop keeps.
-/
import Derived.Test.YtibeokdjedplcaaLend
import Derived.Test.YtibeokdjedplcaaOrderAwake
namespace Go.Proofs.Ytibeokdjedplcaa
open Go.RowKit

/-- Whatever integers, made labels. -/
def andZ (z : Nat → Int) (i : Nat) : Int := bits .and .i64 (z i) 3
theorem lab_andZ (z : Nat → Int) (i : Nat) : Lab (andZ z i) := by
  unfold andZ
  rw [mask3]
  exact lab_mod _
theorem may_andZ (z : Nat → Int) (n : Nat) : mayTo (andZ z) n = true := mayTo_mk fun i _ => lab_andZ z i
theorem ints_snoc (z : Nat → Int) (k : Nat) : ints z k ++ [.int .i64 (z k)] = ints z (k + 1) := by simp [ints, List.range_succ]

/-- One more: the world behind an append of one cell. -/
theorem own_more {w wr w1 : World} {B : Nat} {e : TypeId} {v v' : Value} {z : Nat → Int} {k : Nat} {o : Obj} (hown : wr.ownsRow B e 1 v k (ints z k)) (hb : Below B w wr) (hB : B ≤ wr.heap.size)
    (h' : w1.ownsRow B e 1 v' (k + 1) (ints z k ++ [.int .i64 (z k)])) (hg : (wr.alloc o).grownBy w1 v.ownBlock) : w1.ownsRow B e 1 v' (k + 1) (ints z (k + 1)) ∧ Below B w w1 :=
  ⟨by rw [← ints_snoc]; exact h', (hb.alloc hB o).grown hg (by simp; omega) (owns_block hown)⟩

theorem one_new {w : World} {x : Value} {t : TypeId} : ∀ j u, ([x] : List Value)[j]? = some u → (w.alloc (.cells #[x] t)).cell? ((⟨w.heap.size, 0, none⟩ : Addr).add j) = some u := by
  intro j u hj
  match j, hj with
  | 0, hj => simp at hj; subst hj; simp [Addr.add]
theorem one_one {k : IntKind} {x : Int} : ∀ u ∈ [Value.int k x], u.oneCell' = true := by
  intro u hu
  simp at hu
  subst hu
  rfl

/-- A place picked by a remainder, as the walk spells it. -/
theorem pick_at (x D : Int) (h0 : 0 < D) (h1 : D ≤ 4611686018427387904) : ∃ m : Nat, (m : Int) < D ∧ wrap64 ((IntKind.u64.wrap x).tmod D) = m := by
  have hx : 0 ≤ IntKind.u64.wrap x := by rw [IntKind.wrap_u64]; omega
  have e : (IntKind.u64.wrap x).tmod D = IntKind.u64.wrap x % D := Int.tmod_eq_emod_of_nonneg hx
  have b0 := Int.emod_nonneg (IntKind.u64.wrap x) (b := D) (by omega)
  have b1 := Int.emod_lt_of_pos (IntKind.u64.wrap x) h0
  refine ⟨(IntKind.u64.wrap x % D).toNat, by omega, ?_⟩
  rw [e, IntWalk.wrap64_in _ ⟨by omega, by omega⟩]
  omega

/-- What a loop has gathered: nil, or a row of the call's own. -/
theorem owns_cases {w : World} {base : Nat} {e : TypeId} {v : Value} {n : Nat} {z : Nat → Int} (h : w.ownsRow base e 1 v n (ints z n)) :
    (v = .slice none 0 0 ∧ n = 0) ∨ ∃ g cap, v = .slice (some ⟨g, 0, none⟩) n cap ∧ base ≤ g ∧ n ≤ cap ∧ cap ≤ maxLen ∧ Row w (some ⟨g, 0, none⟩) n fun i => .int .i64 (z i) := by
  obtain ⟨a, cap, e, hc, _, hr⟩ := row_of_owns h
  have hrow := hr (fun i => .int .i64 (z i)) (fun i hi => ints_get hi)
  rcases h.2 with h2 | ⟨g, cap', cur, h3, hg, _, _, hm, _⟩
  · exact .inl h2
  · rw [h3] at e
    simp only [Value.slice.injEq] at e
    obtain ⟨rfl, _, rfl⟩ := e
    exact .inr ⟨g, cap', h3, hg, hc, hm, hrow⟩

/-- A row's rest. -/
theorem row_rest {w : World} {g n : Nat} {f : Nat → Value} (h : Row w (some ⟨g, 0, none⟩) n f) (m : Nat) : Row w (some ⟨g, m, none⟩) (n - m) fun i => f (m + i) := by
  intro i hi
  obtain ⟨b, o, e, hb, hc⟩ := h (m + i) (by omega)
  simp only [Option.some.injEq, Addr.mk.injEq] at e
  obtain ⟨rfl, rfl, _⟩ := e
  exact ⟨g, m, rfl, hb, by rw [Nat.zero_add] at hc; exact hc⟩

theorem ints_snocZ (z : Nat → Int) (k : Nat) (x : Int) : ints z k ++ [.int .i64 x] = ints (snocZ z k x) (k + 1) := by
  rw [← ints_snoc]
  have e : ints (snocZ z k x) k = ints z k := by
    unfold ints
    exact List.map_congr_left fun i hi => by rw [snocZ, if_pos (List.mem_range.1 hi)]
  rw [e]
  simp [snocZ]

end Go.Proofs.Ytibeokdjedplcaa
