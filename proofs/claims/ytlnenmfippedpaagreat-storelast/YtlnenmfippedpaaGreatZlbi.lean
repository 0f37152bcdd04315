/-
  One more at the end of a list of one's own.
-/
import Derived.Test.YtlnenmfippedpaaGreatZlac
namespace Go.Proofs.YtlnenmfippedpaaGreat
open Go.RowKit
set_option linter.unusedSimpArgs false
set_option linter.unusedVariables false
theorem rowL_more {l x : List Int} {n k : Nat} (hl : l.length = n * k) (hx : x.length = k) : rowL (intF (lz l)) (n * k) ++ x.map (Value.int .i64) = rowL (intF (lz (l ++ x))) ((n + 1) * k) := by
  have hm : (n + 1) * k = n * k + k := by rw [Nat.add_mul, Nat.one_mul]
  apply List.ext_getElem?
  intro i
  by_cases h1 : i < n * k
  · rw [List.getElem?_append_left (by rw [rowL_len]; exact h1), rowL_get h1, rowL_get (by omega)]
    unfold intF
    rw [lz_left (by rw [hl]; exact h1)]
  · rw [List.getElem?_append_right (by rw [rowL_len]; omega), rowL_len]
    by_cases h2 : i < (n + 1) * k
    · rw [rowL_get h2]
      unfold intF
      rw [lz_right (by rw [hl]; omega), hl]
      have : i - n * k < x.length := by omega
      simp [lz, List.getD, this]
    · rw [rowL_none (by omega)]
      simp; omega
theorem stw_app1 {w0 w : World} {L : List Itm} {P : Program} {op : Oper} {a : Act} {K : Act → World → Prop} {Q : Exit → Act → World → Prop} (HS : Hid (St w0 w L)) (i : Nat) {D : Nat → Prop} {e : TypeId} {k : Nat} {sl : Sl} {l : List Int} {be : Nat} {x : List Int} (B : ∀ q u, (x.map (Value.int .i64))[q]? = some u → w.cell? ⟨be, q, none⟩ = some u) (hxk : x.length = k) (ei : L[i]? = some (slI D e k sl l)) (hn : sl.n < 512)
    (s y : Operand) (t : TypeId) (ho : op.op = .call { callee := .builtin .append, args := #[s, y], argTypes := #[t, t] }) (z : Value) (bytes : Nat) (ht : P.underlying t = some (.slice e)) (hi : (P.info? e).map (fun i => (i.zero, i.size, i.bytes)) = some (some z, k, bytes)) (hzs : z.cells.size = k) (hk : 0 < k) (hk9 : k ≤ 100) (hb8 : bytes = 8 * k)
    (hs : a.eval s = .slice sl.a sl.n sl.c) (hy : a.eval y = .slice (some ⟨be, 0, none⟩) 1 1)
    (h : ∀ W D' g cap, Hid (St w0 W (L.set i (slI D' e k ⟨some ⟨g, 0, none⟩, sl.n + 1, cap⟩ (l ++ x)))) → K (a.put op.dst (.slice (some ⟨g, 0, none⟩) (sl.n + 1) cap)) W) : op.wp P a w K Q := by
  obtain ⟨ie, hie, hz, hsize, hby⟩ := info_parts hi
  have hM : ListOwn D e k w sl l := HS.out.get i ei
  obtain ⟨v0, rfl, ho5, hb5⟩ := hM.row
  have hlen := hM.is.1
  refine wp_append_lies w s y t ho 0 e ie z k bytes ht hie hz hsize hby hzs hk (.slice sl.a sl.n sl.c) sl.n _ hs ho5 ⟨be, 0, none⟩ 1 1 (x.map (Value.int .i64)) hy (by simp [hxk]) (fun q u hq => ?_) (fun u hu => ?_) (by decide) (by unfold maxLen; omega) (by rw [hb8]; have : (sl.n + 1) * (8 * k) ≤ 512 * 800 := Nat.mul_le_mul (by omega) (by omega); omega) (Nat.zero_le _) w.heap.size rfl fun g cap W' hown hgrow hat hlt => ?_
  · have hadd : (⟨be, 0, none⟩ : Addr).add q = ⟨be, q, none⟩ := by unfold Addr.add; split <;> simp_all
    rw [hadd]
    exact B q u hq
  · obtain ⟨q, _, rfl⟩ := List.mem_map.1 hu
    rfl
  · rw [rowL_more hlen hxk] at hown
    have hown2 := hown
    obtain ⟨a', c', e2, hc, ha', hr, ho'⟩ := slice_of_owns hown
    simp only [Value.slice.injEq] at e2
    obtain ⟨e3, _, e4⟩ := e2
    subst e3; subst e4
    refine h W' (fun q => D q ∨ q = g) g cap (HS.out.set i ei (slI (fun q => D q ∨ q = g) e k ⟨some ⟨g, 0, none⟩, sl.n + 1, cap⟩ (l ++ x)) (chg_grown hgrow fun g' hg' => hb5 g' hg') (slI_loc _ _ _ _ _) ⟨⟨?_, ⟨?_, hc, ha'⟩, hr⟩, fun h0 => ?_, _, rfl, hown2, fun q hq => ?_⟩ fun q hq => ?_)
    · show (l ++ x).length = (sl.n + 1) * k
      rw [List.length_append, hlen, hxk, Nat.add_mul, Nat.one_mul]
    · show (sl.n + 1) * (8 * k) ≤ _
      have : (sl.n + 1) * (8 * k) ≤ 512 * 800 := Nat.mul_le_mul (by omega) (by omega)
      omega
    · obtain ⟨b, e1, _, _, q, hq, _⟩ := ho' h0
      cases e1
      exact ⟨g, rfl, .inr rfl, q, hq⟩
    · right
      simpa [Value.ownBlock, eq_comm] using hq
    · rcases hq with hq | rfl
      · exact .inl hq
      · rcases hat with hat | hat
        · exact .inl (hb5 q hat)
        · exact .inr ⟨by omega, hlt⟩
theorem st_app1 {w0 w : World} {L : List Itm} {P : Program} {ops : Array Oper} {rest : List Oper} {op : Oper} {a : Act} {Q : Exit → Act → World → Prop} (HS : Hid (St w0 w L)) (i : Nat) {D : Nat → Prop} {e : TypeId} {k : Nat} {sl : Sl} {l : List Int} {be : Nat} {x : List Int} (B : ∀ q u, (x.map (Value.int .i64))[q]? = some u → w.cell? ⟨be, q, none⟩ = some u) (hxk : x.length = k) (ei : L[i]? = some (slI D e k sl l)) (hn : sl.n < 512) (hgd : Region.wanted op (yielded ops a.tmps) = true)
    (s y : Operand) (t : TypeId) (ho : op.op = .call { callee := .builtin .append, args := #[s, y], argTypes := #[t, t] }) (z : Value) (bytes : Nat) (ht : P.underlying t = some (.slice e)) (hi : (P.info? e).map (fun i => (i.zero, i.size, i.bytes)) = some (some z, k, bytes)) (hzs : z.cells.size = k) (hk : 0 < k) (hk9 : k ≤ 100) (hb8 : bytes = 8 * k)
    (hs : a.eval s = .slice sl.a sl.n sl.c) (hy : a.eval y = .slice (some ⟨be, 0, none⟩) 1 1)
    (h : ∀ W D' g cap, Hid (St w0 W (L.set i (slI D' e k ⟨some ⟨g, 0, none⟩, sl.n + 1, cap⟩ (l ++ x)))) → wpList P ops Q rest (a.put op.dst (.slice (some ⟨g, 0, none⟩) (sl.n + 1) cap)) W) : wpList P ops Q (op :: rest) a w :=
  BigFrame.wpList_want hgd fun _ hK => stw_app1 HS i B hxk ei hn s y t ho z bytes ht hi hzs hk hk9 hb8 hs hy fun W D' g cap h2 => hK _ _ (h W D' g cap h2)
theorem slI_nil (w0 W : World) (L : List Itm) (e : TypeId) (k : Nat) (h : St w0 W L) : St w0 W (slI (fun _ => False) e k noSl [] :: L) :=
  h.push (Below.refl _ W) (slI (fun _ => False) e k noSl []) (slI_loc _ _ _ _ _) ⟨slIs_none W k, slOwn_none _ _ rfl, _, rfl, by rw [show (noSl.n * k) = 0 from Nat.zero_mul k]; exact World.ownsRow_nil _ _ _ _, fun g hg => by simp [Value.ownBlock, noSl] at hg⟩ fun k hk => hk.elim
end Go.Proofs.YtlnenmfippedpaaGreat
