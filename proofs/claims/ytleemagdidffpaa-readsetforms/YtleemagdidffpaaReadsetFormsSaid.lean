/-
  The law ReadsetForms, if package readset's functions keep their statements.
-/
import Derived.Test.YtleemagdidffpaaReadsetFormsReg15
import Derived.Test.YtleemagdidffpaaTurnedPure
import Derived.Deep.Cut
namespace Go.Proofs.Ytleemagdidffpaa
open Go.RowKit
set_option linter.unusedSimpArgs false
set_option linter.unusedVariables false

/-- With of what may not be: nothing. -/
theorem WithRC.no (hW : WithRC) {a : Option Addr} {n c : Nat} {z : Nat → Int} {l i v : Int} {w : World} (hn : n ≤ 1152921504606846976) (hc : n ≤ c) (ha : a = none → n = 0 ∧ c = 0) (h : Row w a (n * 3) fun i => .int .i64 (z i)) (ho : withOk n z l i v = false) :
    Calls Try.prog 11 #[.slice a n c, .agg #[.int .i64 l, .int .i64 i, .int .i64 v]] w fun e w' => e = .returned (.tuple #[.slice none 0 0, .int .i64 900]) ∧ Below w.heap.size w w' :=
  (hW a n c z l i v w hn hc ha h).mono fun e w' ⟨x, he, _, _, _, hx, _, hb⟩ => by
    rw [hx ho] at he
    unfold withE at he
    rw [ho] at he
    exact ⟨he, hb⟩
/-- The reads that may not be. -/
def badZ (r : Int) : Nat → Int := lz [-(1 + r), 0, 0, 3 + (1 + r), 0, 0, 0, -(1 + r), 0, 0, 3 + (1 + r), 0, 0, 0, -(1 + r), 0, 0, 65535 + (1 + r)]
theorem badZ_no (r : Int) (r0 : 0 ≤ r) (p : Nat) (hp : p < 6) : readMay (badZ r (p * 3)) (badZ r (p * 3 + 1)) (badZ r (p * 3 + 2)) = false := by
  have : p = 0 ∨ p = 1 ∨ p = 2 ∨ p = 3 ∨ p = 4 ∨ p = 5 := by omega
  rcases this with rfl | rfl | rfl | rfl | rfl | rfl
  · show readMay (-(1 + r)) 0 0 = false
    unfold readMay
    rw [upToV_not (.inl (by omega))]; rfl
  · show readMay (3 + (1 + r)) 0 0 = false
    unfold readMay
    rw [upToV_not (.inr (by omega))]; rfl
  · show readMay 0 (-(1 + r)) 0 = false
    unfold readMay
    rw [upToV_not (n := -(1 + r)) (.inl (by omega))]; rfl
  · show readMay 0 (3 + (1 + r)) 0 = false
    unfold readMay
    rw [upToV_not (n := 3 + (1 + r)) (.inr (by omega))]; rfl
  · show readMay 0 0 (-(1 + r)) = false
    unfold readMay
    rw [upToV_not (n := -(1 + r)) (.inl (by omega))]; rfl
  · show readMay 0 0 (65535 + (1 + r)) = false
    unfold readMay
    rw [upToV_not (n := 65535 + (1 + r)) (.inr (by omega))]; rfl
theorem pair_id (r : Int) (p : Nat) (h : p < 2) (r0 : 0 ≤ r) : ∃ x : Int, [Value.int .i64 (-(1 + r)), Value.int .i64 (254 + (1 + r))][p]? = some (.int .i64 x) ∧ upToV x 254 = false := by
  have : p = 0 ∨ p = 1 := by omega
  rcases this with rfl | rfl
  · exact ⟨_, rfl, upToV_not (.inl (by omega))⟩
  · exact ⟨_, rfl, upToV_not (.inr (by omega))⟩
/-- Two reads of one word. -/
def twinZ : Nat → Int := lz [1, 0, 0, 1, 0, 0]
theorem Blk.twin {w : World} {b : Nat} (h : Blk w b [.int .i64 1, .int .i64 0, .int .i64 0, .int .i64 1, .int .i64 0, .int .i64 0]) : Row w (some ⟨b, 0, none⟩) (2 * 3) fun j => .int .i64 (twinZ j) := Blk.lzRow (l := [1, 0, 0, 1, 0, 0]) h

set_option maxRecDepth 100000 in
set_option maxHeartbeats 8000000 in
theorem readsetForms_at (hM : MayRC) (hW : WithRC) (hG : GoodRC) (hC : ChgRC) (a0 a1 r : Int) (p q : Nat) (w : World) (hd : bits .and .i64 a1 1023 = r) (r0 : 0 ≤ r) (r1 : r ≤ 1023) (hp : wrap64 ((IntKind.u64.wrap a0).tmod 6) = p) (hp6 : (p : Int) < 6) (hq : bits .and .i64 a0 1 = q) (hq2 : (q : Int) < 2) :
    Calls Try.prog 5 #[.int .i64 a0, .int .i64 a1] w fun e w' => e = .returned (.bool true) ∧ Below w.heap.size w w' := by
  obtain ⟨xi, n1, hxi⟩ := pair_id r q (by omega) r0
  have v0 : IntKind.i64.wrap (-(1 + r)) = -(1 + r) := IntWalk.i64_in _ ⟨by omega, by omega⟩
  have v1 : IntKind.i64.wrap (254 + (1 + r)) = 254 + (1 + r) := IntWalk.i64_in _ ⟨by omega, by omega⟩
  have v2 : IntKind.i64.wrap (3 + (1 + r)) = 3 + (1 + r) := IntWalk.i64_in _ ⟨by omega, by omega⟩
  have v3 : IntKind.i64.wrap (65535 + (1 + r)) = 65535 + (1 + r) := IntWalk.i64_in _ ⟨by omega, by omega⟩
  have v4 : IntKind.i64.wrap (1 + r) = 1 + r := IntWalk.i64_in _ ⟨by omega, by omega⟩
  have hq0 : (0 : Int) ≤ (q : Int) := by omega
  have C0 := hide fun w => awake9_any hM hW hG hC w
  go_enter Try.func5, Try.ntmps5
  go_wp2_with fail
  refine (C0.out _).mono ?_
  rintro e w1 ⟨rfl, b1⟩
  have s1 := b1.size
  clear C0
  go_upto_region 6 with (fail)
  have P6 := (blk_new w1 [.int .i64 1, .int .i64 0, .int .i64 0] 24).alloc (.cells #[.int .i64 (-(1 + r)), .int .i64 0, .int .i64 0, .int .i64 (3 + (1 + r)), .int .i64 0, .int .i64 0, .int .i64 0, .int .i64 (-(1 + r)), .int .i64 0, .int .i64 0, .int .i64 (3 + (1 + r)), .int .i64 0, .int .i64 0, .int .i64 0, .int .i64 (-(1 + r)), .int .i64 0, .int .i64 0, .int .i64 (65535 + (1 + r))] 24)
  have Bb : Blk ((w1.alloc (.cells #[.int .i64 1, .int .i64 0, .int .i64 0] 24)).alloc (.cells #[.int .i64 (-(1 + r)), .int .i64 0, .int .i64 0, .int .i64 (3 + (1 + r)), .int .i64 0, .int .i64 0, .int .i64 0, .int .i64 (-(1 + r)), .int .i64 0, .int .i64 0, .int .i64 (3 + (1 + r)), .int .i64 0, .int .i64 0, .int .i64 0, .int .i64 (-(1 + r)), .int .i64 0, .int .i64 0, .int .i64 (65535 + (1 + r))] 24)) (w1.heap.size + 1) ([-(1 + r), 0, 0, 3 + (1 + r), 0, 0, 0, -(1 + r), 0, 0, 3 + (1 + r), 0, 0, 0, -(1 + r), 0, 0, 65535 + (1 + r)].map (Value.int .i64)) := by
    have := blk_lz (w1.alloc (.cells #[.int .i64 1, .int .i64 0, .int .i64 0] 24)) [-(1 + r), 0, 0, 3 + (1 + r), 0, 0, 0, -(1 + r), 0, 0, 3 + (1 + r), 0, 0, 0, -(1 + r), 0, 0, 65535 + (1 + r)] 24
    rw [World.size_alloc] at this
    exact this
  have b2 : Below w.heap.size w ((w1.alloc (.cells #[.int .i64 1, .int .i64 0, .int .i64 0] 24)).alloc (.cells #[.int .i64 (-(1 + r)), .int .i64 0, .int .i64 0, .int .i64 (3 + (1 + r)), .int .i64 0, .int .i64 0, .int .i64 0, .int .i64 (-(1 + r)), .int .i64 0, .int .i64 0, .int .i64 (3 + (1 + r)), .int .i64 0, .int .i64 0, .int .i64 0, .int .i64 (-(1 + r)), .int .i64 0, .int .i64 0, .int .i64 (65535 + (1 + r))] 24)) := (b1.alloc s1 _).alloc (by simp only [World.size_alloc]; omega) _
  change Blk ((w1.alloc (.cells #[.int .i64 1, .int .i64 0, .int .i64 0] 24)).alloc (.cells #[.int .i64 (-(1 + r)), .int .i64 0, .int .i64 0, .int .i64 (3 + (1 + r)), .int .i64 0, .int .i64 0, .int .i64 0, .int .i64 (-(1 + r)), .int .i64 0, .int .i64 0, .int .i64 (3 + (1 + r)), .int .i64 0, .int .i64 0, .int .i64 0, .int .i64 (-(1 + r)), .int .i64 0, .int .i64 0, .int .i64 (65535 + (1 + r))] 24)) _ _ at P6
  generalize (w1.alloc (.cells #[.int .i64 1, .int .i64 0, .int .i64 0] 24)).alloc (.cells #[.int .i64 (-(1 + r)), .int .i64 0, .int .i64 0, .int .i64 (3 + (1 + r)), .int .i64 0, .int .i64 0, .int .i64 0, .int .i64 (-(1 + r)), .int .i64 0, .int .i64 0, .int .i64 (3 + (1 + r)), .int .i64 0, .int .i64 0, .int .i64 0, .int .i64 (-(1 + r)), .int .i64 0, .int .i64 0, .int .i64 (65535 + (1 + r))] 24) = W1 at *
  have hcell : ∀ j, j < 18 → W1.cell? ⟨w1.heap.size + 1, j, none⟩ = some (.int .i64 (badZ r j)) := fun j hj => by
    obtain ⟨b', off, e, _, hcl⟩ := Bb.lzRow j (by simpa using hj)
    simp only [Option.some.injEq, Addr.mk.injEq, and_true] at e
    obtain ⟨rfl, rfl⟩ := e
    rw [Nat.zero_add] at hcl
    exact hcl
  have e0 := hcell (p * 3) (by omega)
  have e1 := hcell (p * 3 + 1) (by omega)
  have e2 := hcell (p * 3 + 2) (by omega)
  have HX := hide (badZ_no r r0 p (by omega))
  have zb := Bb.lt
  have z6 := P6.lt
  have s2 := b2.size
  clear hcell Bb b1
  generalize badZ r (p * 3) = x0, badZ r (p * 3 + 1) = x1, badZ r (p * 3 + 2) = x2 at *
  go_upto_region 7 with (fail)
  have P8 := blk_new W1 [.int .i64 x0, .int .i64 x1, .int .i64 x2] 24
  replace P6 := P6.alloc (.cells #[.int .i64 x0, .int .i64 x1, .int .i64 x2] 24)
  replace b2 := b2.alloc s2 (.cells #[.int .i64 x0, .int .i64 x1, .int .i64 x2] 24)
  change Blk (W1.alloc (.cells #[.int .i64 x0, .int .i64 x1, .int .i64 x2] 24)) _ _ at P8
  clear e0 e1 e2 zb z6 s2
  generalize W1.heap.size = b8 at *
  generalize W1.alloc (.cells #[.int .i64 x0, .int .i64 x1, .int .i64 x2] 24) = W2 at *
  generalize w1.heap.size = b6 at *
  clear W1
  have s2 := b2.size
  go_wp2_with fail
  have V : Held ((((W2.alloc (.cells #[.int .i64 1] 3)).alloc (.cells #[.int .i64 2] 3)).alloc (.cells #[.int .i64 3] 3)).alloc (.cells #[.int .i64 4] 3)) [(W2.heap.size, [1].map (Value.int .i64)), (W2.heap.size + 1, [2].map (Value.int .i64)), (W2.heap.size + 1 + 1, [3].map (Value.int .i64)), (W2.heap.size + 1 + 1 + 1, [4].map (Value.int .i64))] := by
    have e0 := blk_lz W2 [1] 3
    have e1 := blk_lz (W2.alloc (.cells ([1].map (Value.int .i64)).toArray 3)) [2] 3
    have e2 := blk_lz ((W2.alloc (.cells ([1].map (Value.int .i64)).toArray 3)).alloc (.cells ([2].map (Value.int .i64)).toArray 3)) [3] 3
    have e3 := blk_lz (((W2.alloc (.cells ([1].map (Value.int .i64)).toArray 3)).alloc (.cells ([2].map (Value.int .i64)).toArray 3)).alloc (.cells ([3].map (Value.int .i64)).toArray 3)) [4] 3
    simp only [World.size_alloc] at e1 e2 e3
    exact Held.cons (((e0.alloc _).alloc _).alloc _) (Held.cons ((e1.alloc _).alloc _) (Held.cons (e2.alloc _) (Held.cons e3 (Held.nil _))))
  have bV : Below W2.heap.size W2 ((((W2.alloc (.cells #[.int .i64 1] 3)).alloc (.cells #[.int .i64 2] 3)).alloc (.cells #[.int .i64 3] 3)).alloc (.cells #[.int .i64 4] 3)) := by go_grown
  generalize (((W2.alloc (.cells #[.int .i64 1] 3)).alloc (.cells #[.int .i64 2] 3)).alloc (.cells #[.int .i64 3] 3)).alloc (.cells #[.int .i64 4] 3) = WV at *
  refine (rnewArena_any (four ⟨some ⟨W2.heap.size, 0, none⟩, 1, 1⟩ ⟨some ⟨W2.heap.size + 1, 0, none⟩, 1, 1⟩ ⟨some ⟨W2.heap.size + 1 + 1, 0, none⟩, 1, 1⟩ ⟨some ⟨W2.heap.size + 1 + 1 + 1, 0, none⟩, 1, 1⟩) (four (lz [1]) (lz [2]) (lz [3]) (lz [4])) _ ?_ ?_).mono ?_
  · exact four_all (by simp [four]) (by simp [four]) (by simp [four]) (by simp [four])
  · exact four_all (V.at 0 rfl).lzRow (V.at 1 rfl).lzRow (V.at 2 rfl).lzRow (V.at 3 rfl).lzRow
  rintro e w3 ⟨t, rfl, hny, hF, hb, hok, _⟩
  have ok1 : newOk (four ⟨some ⟨W2.heap.size, 0, none⟩, 1, 1⟩ ⟨some ⟨W2.heap.size + 1, 0, none⟩, 1, 1⟩ ⟨some ⟨W2.heap.size + 1 + 1, 0, none⟩, 1, 1⟩ ⟨some ⟨W2.heap.size + 1 + 1 + 1, 0, none⟩, 1, 1⟩) (four (lz [1]) (lz [2]) (lz [3]) (lz [4])) = true := by kernel_rfl
  have htn := hok ok1
  have HFit := hide (new_fit hny ok1 htn)
  have h1 : ∀ g, g < 4 → (t g).n = 1 := fun g hg => by
    rw [htn g hg]
    exact four_all (P := fun g => (four (α := Sl) ⟨some ⟨W2.heap.size, 0, none⟩, 1, 1⟩ ⟨some ⟨W2.heap.size + 1, 0, none⟩, 1, 1⟩ ⟨some ⟨W2.heap.size + 1 + 1, 0, none⟩, 1, 1⟩ ⟨some ⟨W2.heap.size + 1 + 1 + 1, 0, none⟩, 1, 1⟩ g).n = 1) rfl rfl rfl rfl g hg
  have H1 := hide h1
  replace bV := Below.on bV hb
  have b3 := Below.on b2 bV
  have HFr := hide hF
  replace P6 := P6.on bV
  replace P8 := P8.on bV
  have s3 := b3.size
  generalize newZ (four (lz [1]) (lz [2]) (lz [3]) (lz [4])) = y at *
  clear V bV hny hF hb hok ok1 htn h1 b2
  generalize WV.heap.size = B0 at *
  clear WV
  unfold arenaA
  go_upto_region 8 with (fail)
  have B9 := blk_new w3 (arenaL t) 26
  replace P6 := P6.alloc (.cells (arenaL t).toArray 26)
  replace P8 := P8.alloc (.cells (arenaL t).toArray 26)
  replace HFr := hide (HFr.out.alloc (.cells (arenaL t).toArray 26))
  replace b3 := b3.alloc s3 (.cells (arenaL t).toArray 26)
  have s4 : w3.heap.size < (w3.alloc (.cells (arenaL t).toArray 26)).heap.size := by rw [World.size_alloc]; omega
  change Blk (w3.alloc (.cells #[.slice (t 0).a (t 0).n (t 0).c, .slice (t 1).a (t 1).n (t 1).c, .slice (t 2).a (t 2).n (t 2).c, .slice (t 3).a (t 3).n (t 3).c] 26)) _ _ at P6 P8 B9
  change Below _ _ (w3.alloc (.cells #[.slice (t 0).a (t 0).n (t 0).c, .slice (t 1).a (t 1).n (t 1).c, .slice (t 2).a (t 2).n (t 2).c, .slice (t 3).a (t 3).n (t 3).c] 26)) at b3
  change Hid (Fresh _ _ (w3.alloc (.cells #[.slice (t 0).a (t 0).n (t 0).c, .slice (t 1).a (t 1).n (t 1).c, .slice (t 2).a (t 2).n (t 2).c, .slice (t 3).a (t 3).n (t 3).c] 26)) _ _ _) at HFr
  change w3.heap.size < (w3.alloc (.cells #[.slice (t 0).a (t 0).n (t 0).c, .slice (t 1).a (t 1).n (t 1).c, .slice (t 2).a (t 2).n (t 2).c, .slice (t 3).a (t 3).n (t 3).c] 26)).heap.size at s4
  generalize w3.alloc (.cells #[.slice (t 0).a (t 0).n (t 0).c, .slice (t 1).a (t 1).n (t 1).c, .slice (t 2).a (t 2).n (t 2).c, .slice (t 3).a (t 3).n (t 3).c] 26) = W4 at *
  generalize w3.heap.size = b9 at *
  clear w3
  obtain ⟨⟨d0, d1, d2, d3⟩, df0, df1, df2, df3⟩ := B9.four
  have CA := hide (copyArena_any t y W4 HFit.out HFr.out.arn)
  unfold arenaA at CA
  go_wp2_with fail
  refine CA.out.mono ?_
  rintro e w5 ⟨t', rfl, htn', hny', hF', hb⟩
  have HFit' := hide (same_fit hny' HFit.out htn')
  have n0 : (t' 0).n = 1 := by rw [htn' 0 (by omega)]; exact H1.out 0 (by omega)
  have s5 := hb.size
  have z6 := P6.lt
  have z8 := P8.lt
  have z9 := B9.lt
  replace P6 := P6.on hb
  replace P8 := P8.on hb
  replace B9 := B9.on hb
  replace HFr := hide (HFr.out.on hb)
  have b5 := Below.on b3 hb
  have HFr' := hide hF'
  obtain ⟨bt, hta, hB1, hB2, hot⟩ : ∃ b, (t' 0).a = some ⟨b, 0, none⟩ ∧ W4.heap.size ≤ b ∧ b < w5.heap.size ∧ Own w5 b ((t' 0).n * 3) (intF (y 0)) := by
    obtain ⟨β, k1, _⟩ := hF'
    exact ⟨β 0, k1 0 (by omega) (by omega)⟩
  have HT0 := hide (And.intro n0 hta)
  have s6 := b5.size
  clear hb htn' hny' hF' CA b3 d0 d1 d2 d3 df0 df1 df2 df3 n0 hta
  go_upto_region 9 with (fail)
  have B11 := blk_new w5 (arenaL t') 26
  replace P6 := P6.alloc (.cells (arenaL t').toArray 26)
  replace P8 := P8.alloc (.cells (arenaL t').toArray 26)
  replace B9 := B9.alloc (.cells (arenaL t').toArray 26)
  replace HFr := hide (HFr.out.alloc (.cells (arenaL t').toArray 26))
  replace HFr' := hide (HFr'.out.alloc (.cells (arenaL t').toArray 26))
  replace hot := hot.alloc (.cells (arenaL t').toArray 26)
  replace b5 := b5.alloc s6 (.cells (arenaL t').toArray 26)
  change Blk (w5.alloc (.cells #[.slice (t' 0).a (t' 0).n (t' 0).c, .slice (t' 1).a (t' 1).n (t' 1).c, .slice (t' 2).a (t' 2).n (t' 2).c, .slice (t' 3).a (t' 3).n (t' 3).c] 26)) _ _ at P6 P8 B9 B11
  change Hid (Fresh _ _ (w5.alloc (.cells #[.slice (t' 0).a (t' 0).n (t' 0).c, .slice (t' 1).a (t' 1).n (t' 1).c, .slice (t' 2).a (t' 2).n (t' 2).c, .slice (t' 3).a (t' 3).n (t' 3).c] 26)) _ _ _) at HFr HFr'
  change Own (w5.alloc (.cells #[.slice (t' 0).a (t' 0).n (t' 0).c, .slice (t' 1).a (t' 1).n (t' 1).c, .slice (t' 2).a (t' 2).n (t' 2).c, .slice (t' 3).a (t' 3).n (t' 3).c] 26)) _ _ _ at hot
  change Below _ _ (w5.alloc (.cells #[.slice (t' 0).a (t' 0).n (t' 0).c, .slice (t' 1).a (t' 1).n (t' 1).c, .slice (t' 2).a (t' 2).n (t' 2).c, .slice (t' 3).a (t' 3).n (t' 3).c] 26)) at b5
  generalize w5.alloc (.cells #[.slice (t' 0).a (t' 0).n (t' 0).c, .slice (t' 1).a (t' 1).n (t' 1).c, .slice (t' 2).a (t' 2).n (t' 2).c, .slice (t' 3).a (t' 3).n (t' 3).c] 26) = W6 at *
  generalize w5.heap.size = b11 at *
  clear w5
  have d0 := B11.cell 0 _ (arenaL_get t' (k := 0) (by omega))
  rw [HT0.out.1, HT0.out.2] at d0
  have m0 := hot.cell (i := 0) (by rw [HT0.out.1]; omega)
  have mf := hot.frozen 0
  unfold intF at m0
  go_upto_region 10 with (fail)
  have HA := hide (HFr.out.far (a := ⟨bt, 0, none⟩) (.int .i64 (-(1 + r))) (.inr (by simp; omega))).arn
  have HB := hide (HFr'.out.setOne (l := 0) (by omega) (by rw [HT0.out.1]; omega) HT0.out.2 0 (-(1 + r))).arn
  replace P6 := P6.far (a := ⟨bt, 0, none⟩) (.int .i64 (-(1 + r))) (by simp; omega)
  replace P8 := P8.far (a := ⟨bt, 0, none⟩) (.int .i64 (-(1 + r))) (by simp; omega)
  replace B9 := B9.far (a := ⟨bt, 0, none⟩) (.int .i64 (-(1 + r))) (by simp; omega)
  replace B11 := B11.far (a := ⟨bt, 0, none⟩) (.int .i64 (-(1 + r))) (by simp; omega)
  have b7 : Below w.heap.size w (W6.setCell ⟨bt, 0, none⟩ (.int .i64 (-(1 + r)))) := b5.setCell (by simp; omega) _
  clear HFr HFr' hot d0 m0 mf b5
  have ha' : amay t' (oneZ y 0 0 (-(1 + r))) = false := lvTo_no 0 (by omega) (lvMay_bad 0 (by rw [HT0.out.1]; omega) (wmay_no1 (upToV_not (.inl (by
    show oneZ y 0 0 (-(1 + r)) 0 0 < 0
    unfold oneZ updZ
    rw [if_pos rfl, if_pos rfl]
    omega)))))
  have ht1 : allTo (thereP t (oneR 1 1 0)) 1 = false := allTo_no 0 (by omega) (thereV_not fun g k hg hk _ => by
    have e1 : (1 : Int) = (g : Int) := hg
    have e2 : (1 : Int) = (k : Int) := hk
    obtain rfl : g = 1 := by omega
    rw [H1.out 1 (by omega)]
    omega)
  generalize oneZ y 0 0 (-(1 + r)) = y' at *
  generalize W6.setCell ⟨bt, 0, none⟩ (.int .i64 (-(1 + r))) = W7 at *
  have C10 := hide fun w => hW.no (a := none) (n := 0) (c := 0) (z := fun _ => 0) (l := x0) (i := x1) (v := x2) (w := w) (by omega) (by omega) (fun _ => ⟨rfl, rfl⟩) (row_zero _ _ _) (withOk_read HX.out)
  have C11 := hide fun b w h => hW.no (a := some ⟨b, 0, none⟩) (n := 1) (c := 1) (z := oneR x0 x1 x2) (l := 1) (i := 0) (v := 0) (w := w) (by omega) (by omega) (fun e => by cases e) h (withOk_reads (by rw [readsMay_one]; exact HX.out))
  have C12 := hide fun b w h => hW.no (a := some ⟨b, 0, none⟩) (n := 2) (c := 2) (z := twinZ) (l := 1) (i := 0) (v := 0) (w := w) (by omega) (by omega) (fun e => by cases e) h (by kernel_rfl)
  have f13 : fitR t y 1 (oneR x0 x1 x2) = false := fitR_reads (by rw [readsMay_one]; exact HX.out)
  have C13 := hide fun b w hA h => hG t y (some ⟨b, 0, none⟩) 1 1 (oneR x0 x1 x2) 3 w HFit.out hA (by omega) (by omega) h
  simp only [(good_no (goodOk_fit (d := 3) f13)).1, (good_no (goodOk_fit (d := 3) f13)).2] at C13
  have f14 : fitR t' y' 1 (oneR 1 0 0) = false := fitR_arena ha'
  have C14 := hide fun b w hA h => hG t' y' (some ⟨b, 0, none⟩) 1 1 (oneR 1 0 0) 3 w HFit'.out hA (by omega) (by omega) h
  simp only [(good_no (goodOk_fit (d := 3) f14)).1, (good_no (goodOk_fit (d := 3) f14)).2] at C14
  have o15 : goodOk t y 1 (oneR 1 0 0) xi = false := goodOk_id hxi
  have C15 := hide fun b w hA h => hG t y (some ⟨b, 0, none⟩) 1 1 (oneR 1 0 0) xi w HFit.out hA (by omega) (by omega) h
  simp only [(good_no o15).1, (good_no o15).2] at C15
  have f16 : fitR t y 1 (oneR 1 1 0) = false := fitR_there ht1
  have C16 := hide fun b w hA h => hG t y (some ⟨b, 0, none⟩) 1 1 (oneR 1 1 0) 3 w HFit.out hA (by omega) (by omega) h
  simp only [(good_no (goodOk_fit (d := 3) f16)).1, (good_no (goodOk_fit (d := 3) f16)).2] at C16
  have C17 := hide fun b w hA h => hC t y (some ⟨b, 0, none⟩) 1 1 (oneR 1 1 0) w HFit.out hA (by omega) (by omega) h
  simp only [(chg_no f16).1, (chg_no f16).2] at C17
  have f18 : fitR t' y' 0 (fun _ => 0) = false := fitR_arena ha'
  have C18 := hide fun w hA => hC t' y' none 0 0 (fun _ => 0) w HFit'.out hA (by omega) (by omega) (row_zero _ _ _)
  simp only [(chg_no f18).1, (chg_no f18).2] at C18
  have C19 := hide fun b w h => hM (some ⟨b, 0, none⟩) 1 1 (oneR x0 x1 x2) w (by omega) (by omega) h
  rw [readsMay_one, HX.out] at C19
  have C20 := hide fun b w h => hM (some ⟨b, 0, none⟩) 2 2 twinZ w (by omega) (by omega) h
  rw [show readsMay 2 twinZ = false by kernel_rfl] at C20
  clear f13 f14 o15 f16 f18 ha' ht1 hM hW hG hC HX hxi HT0 HFit HFit' H1 hp hp6 v2 v3 v4 hd
  unfold arenaA at C13 C14 C15 C16 C17 C18
  obtain ⟨⟨g0, g1, g2⟩, gf0, gf1, gf2⟩ := P8.three
  have gl := P8.lt
  go_wp2_with fail
  refine (C10.out _).mono ?_
  rintro e W8 ⟨rfl, hb⟩
  replace P6 := P6.on hb
  replace P8 := P8.on hb
  replace B9 := B9.on hb
  replace B11 := B11.on hb
  replace HA := hide (HA.out.below hb (Nat.le_refl _))
  replace HB := hide (HB.out.below hb (Nat.le_refl _))
  replace b7 := Below.on b7 hb
  clear hb g0 gf0 g1 gf1 g2 gf2 gl
  clear C10
  obtain ⟨⟨g0, g1, g2⟩, gf0, gf1, gf2⟩ := P8.three
  have gl := P8.lt
  obtain ⟨⟨p0, p1, p2⟩, pf0, pf1, pf2⟩ := P6.three
  have pl := P6.lt
  go_wp2_with fail
  have bb := (Below.refl W8.heap.size W8).alloc (Nat.le_refl _) (.cells #[.int .i64 x0, .int .i64 x1, .int .i64 x2] 24)
  refine (C11.out _ _ (blk_new W8 [.int .i64 x0, .int .i64 x1, .int .i64 x2] 24).read).mono ?_
  rintro e W9 ⟨rfl, hb⟩
  replace bb := Below.on bb hb
  replace P6 := P6.on bb
  replace P8 := P8.on bb
  replace B9 := B9.on bb
  replace B11 := B11.on bb
  replace HA := hide (HA.out.below bb (Nat.le_refl _))
  replace HB := hide (HB.out.below bb (Nat.le_refl _))
  replace b7 := Below.on b7 bb
  clear hb bb g0 gf0 g1 gf1 g2 gf2 gl p0 pf0 p1 pf1 p2 pf2 pl
  clear C11
  obtain ⟨⟨p0, p1, p2⟩, pf0, pf1, pf2⟩ := P6.three
  have pl := P6.lt
  go_wp2_with fail
  have bb := (Below.refl W9.heap.size W9).alloc (Nat.le_refl _) (.cells #[.int .i64 1, .int .i64 0, .int .i64 0, .int .i64 1, .int .i64 0, .int .i64 0] 24)
  refine (C12.out _ _ (blk_new W9 [.int .i64 1, .int .i64 0, .int .i64 0, .int .i64 1, .int .i64 0, .int .i64 0] 24).twin).mono ?_
  rintro e W10 ⟨rfl, hb⟩
  replace bb := Below.on bb hb
  replace P6 := P6.on bb
  replace P8 := P8.on bb
  replace B9 := B9.on bb
  replace B11 := B11.on bb
  replace HA := hide (HA.out.below bb (Nat.le_refl _))
  replace HB := hide (HB.out.below bb (Nat.le_refl _))
  replace b7 := Below.on b7 bb
  clear hb bb p0 pf0 p1 pf1 p2 pf2 pl
  clear C12
  obtain ⟨⟨g0, g1, g2⟩, gf0, gf1, gf2⟩ := P8.three
  have gl := P8.lt
  obtain ⟨⟨d0, d1, d2, d3⟩, df0, df1, df2, df3⟩ := B9.four
  have dl := B9.lt
  go_wp2_with fail
  have bb := (Below.refl W10.heap.size W10).alloc (Nat.le_refl _) (.cells #[.int .i64 x0, .int .i64 x1, .int .i64 x2] 24)
  refine (C13.out _ _ (HA.out.below bb (Nat.le_refl _)) (blk_new W10 [.int .i64 x0, .int .i64 x1, .int .i64 x2] 24).read).mono ?_
  rintro e W11 ⟨rfl, hb⟩
  replace bb := Below.on bb hb
  replace P6 := P6.on bb
  replace P8 := P8.on bb
  replace B9 := B9.on bb
  replace B11 := B11.on bb
  replace HA := hide (HA.out.below bb (Nat.le_refl _))
  replace HB := hide (HB.out.below bb (Nat.le_refl _))
  replace b7 := Below.on b7 bb
  clear hb bb g0 gf0 g1 gf1 g2 gf2 gl d0 df0 d1 df1 d2 df2 d3 df3 dl
  clear C13
  obtain ⟨⟨p0, p1, p2⟩, pf0, pf1, pf2⟩ := P6.three
  have pl := P6.lt
  obtain ⟨⟨m0, m1, m2, m3⟩, mf0, mf1, mf2, mf3⟩ := B11.four
  have ml := B11.lt
  go_wp2_with fail
  have bb := (Below.refl W11.heap.size W11).alloc (Nat.le_refl _) (.cells #[.int .i64 1, .int .i64 0, .int .i64 0] 24)
  refine (C14.out _ _ (HB.out.below bb (Nat.le_refl _)) (blk_new W11 [.int .i64 1, .int .i64 0, .int .i64 0] 24).read).mono ?_
  rintro e W12 ⟨rfl, hb⟩
  replace bb := Below.on bb hb
  replace P6 := P6.on bb
  replace P8 := P8.on bb
  replace B9 := B9.on bb
  replace B11 := B11.on bb
  replace HA := hide (HA.out.below bb (Nat.le_refl _))
  replace HB := hide (HB.out.below bb (Nat.le_refl _))
  replace b7 := Below.on b7 bb
  clear hb bb p0 pf0 p1 pf1 p2 pf2 pl m0 mf0 m1 mf1 m2 mf2 m3 mf3 ml
  clear C14
  go_upto_region 15 with (fail)
  refine forms_reg15 a0 r xi q b6 b9 t y W12 hq hq2 hq0 n1 v0 v1 C15 HA P6 B9 _ _ _ _ _ _ _ _ _ _ _ _ _ _ _ _ _ _ _ _ _ _ _ _ _ _ _ _ _ _ _ _ _ _ _ _ _ _ _ _ _ _ _ _ _ _ _ _ _ _ _ _ _ _ _ _ _ _ _ _ _ _ _ _ _ _ _ _ _ _ _ _ _ _ _ _ _ _ _ _ _ _ _ _ _ _ _ _ _ _ _ _ _ _ _ _ _ _ _ _ _ _ _ _ _ _ _ _ _ _ _ _ _ _ _ _ _ _ _ _ _ _ _ _ _ _ _ _ _ _ _ _ _ _ _ _ _ _ _ _ _ _ _ _ _ _ _ _ _ _ _ _ _ _ _ _ _ _ _ _ _ _ _ _ _ _ _ _ _ _ _ _ _ _ _ _ _ _ _ _ _ _ _ _ _ _ _ _ _ _ _ _ _ _ _ _ _ _ _ _ _ _ ?_
  intro u113 u114 u115 u116 u117 u118 u119 u120 u121 u122 u123 u124 u125 u126 u127 u128 W13 hb
  replace P6 := P6.on hb
  replace P8 := P8.on hb
  replace B9 := B9.on hb
  replace B11 := B11.on hb
  replace HA := hide (HA.out.below hb (Nat.le_refl _))
  replace HB := hide (HB.out.below hb (Nat.le_refl _))
  replace b7 := Below.on b7 hb
  clear hb C15 n1 v0 v1 hq hq2 hq0
  obtain ⟨⟨d0, d1, d2, d3⟩, df0, df1, df2, df3⟩ := B9.four
  have dl := B9.lt
  go_wp2_with fail
  have bb := (Below.refl W13.heap.size W13).alloc (Nat.le_refl _) (.cells #[.int .i64 1, .int .i64 1, .int .i64 0] 24)
  refine (C16.out _ _ (HA.out.below bb (Nat.le_refl _)) (blk_new W13 [.int .i64 1, .int .i64 1, .int .i64 0] 24).read).mono ?_
  rintro e W14 ⟨rfl, hb⟩
  replace bb := Below.on bb hb
  replace P6 := P6.on bb
  replace P8 := P8.on bb
  replace B9 := B9.on bb
  replace B11 := B11.on bb
  replace HA := hide (HA.out.below bb (Nat.le_refl _))
  replace HB := hide (HB.out.below bb (Nat.le_refl _))
  replace b7 := Below.on b7 bb
  clear hb bb d0 df0 d1 df1 d2 df2 d3 df3 dl
  clear C16
  obtain ⟨⟨d0, d1, d2, d3⟩, df0, df1, df2, df3⟩ := B9.four
  have dl := B9.lt
  go_wp2_with fail
  have bb := (Below.refl W14.heap.size W14).alloc (Nat.le_refl _) (.cells #[.int .i64 1, .int .i64 1, .int .i64 0] 24)
  refine (C17.out _ _ (HA.out.below bb (Nat.le_refl _)) (blk_new W14 [.int .i64 1, .int .i64 1, .int .i64 0] 24).read).mono ?_
  rintro e W15 ⟨rfl, hb⟩
  replace bb := Below.on bb hb
  replace P6 := P6.on bb
  replace P8 := P8.on bb
  replace B9 := B9.on bb
  replace B11 := B11.on bb
  replace HA := hide (HA.out.below bb (Nat.le_refl _))
  replace HB := hide (HB.out.below bb (Nat.le_refl _))
  replace b7 := Below.on b7 bb
  clear hb bb d0 df0 d1 df1 d2 df2 d3 df3 dl
  clear C17
  obtain ⟨⟨m0, m1, m2, m3⟩, mf0, mf1, mf2, mf3⟩ := B11.four
  have ml := B11.lt
  go_wp2_with fail
  refine (C18.out _ HB.out).mono ?_
  rintro e W16 ⟨rfl, hb⟩
  replace P6 := P6.on hb
  replace P8 := P8.on hb
  replace B9 := B9.on hb
  replace B11 := B11.on hb
  replace HA := hide (HA.out.below hb (Nat.le_refl _))
  replace HB := hide (HB.out.below hb (Nat.le_refl _))
  replace b7 := Below.on b7 hb
  clear hb m0 mf0 m1 mf1 m2 mf2 m3 mf3 ml
  clear C18
  obtain ⟨⟨g0, g1, g2⟩, gf0, gf1, gf2⟩ := P8.three
  have gl := P8.lt
  go_wp2_with fail
  have bb := (Below.refl W16.heap.size W16).alloc (Nat.le_refl _) (.cells #[.int .i64 x0, .int .i64 x1, .int .i64 x2] 24)
  refine (C19.out _ _ (blk_new W16 [.int .i64 x0, .int .i64 x1, .int .i64 x2] 24).read).mono ?_
  rintro e W17 ⟨rfl, hb⟩
  replace bb := Below.on bb hb
  replace P6 := P6.on bb
  replace P8 := P8.on bb
  replace B9 := B9.on bb
  replace B11 := B11.on bb
  replace HA := hide (HA.out.below bb (Nat.le_refl _))
  replace HB := hide (HB.out.below bb (Nat.le_refl _))
  replace b7 := Below.on b7 bb
  clear hb bb g0 gf0 g1 gf1 g2 gf2 gl
  clear C19
  obtain ⟨⟨p0, p1, p2⟩, pf0, pf1, pf2⟩ := P6.three
  have pl := P6.lt
  go_wp2_with fail
  have bb := (Below.refl W17.heap.size W17).alloc (Nat.le_refl _) (.cells #[.int .i64 1, .int .i64 0, .int .i64 0, .int .i64 1, .int .i64 0, .int .i64 0] 24)
  refine (C20.out _ _ (blk_new W17 [.int .i64 1, .int .i64 0, .int .i64 0, .int .i64 1, .int .i64 0, .int .i64 0] 24).twin).mono ?_
  rintro e W18 ⟨rfl, hb⟩
  replace bb := Below.on bb hb
  replace P6 := P6.on bb
  replace P8 := P8.on bb
  replace B9 := B9.on bb
  replace B11 := B11.on bb
  replace HA := hide (HA.out.below bb (Nat.le_refl _))
  replace HB := hide (HB.out.below bb (Nat.le_refl _))
  replace b7 := Below.on b7 bb
  clear hb bb p0 pf0 p1 pf1 p2 pf2 pl
  clear C20 P6 P8 B9 B11 HA HB
  go_wp2_with (go_at_call 18; refine (num_any _ _).mono ?_; rintro e w' ⟨rfl, rfl⟩)
  go_ret
  exact ⟨rfl, b7⟩

theorem readsetForms_said (hM : MayRC) (hW : WithRC) (hG : GoodRC) (hC : ChgRC) (a0 a1 : Int) (w : World) :
    Calls Try.prog 5 #[.int .i64 a0, .int .i64 a1] w fun e w' => e = .returned (.bool true) ∧ Below w.heap.size w w' := by
  obtain ⟨p, hp6, hp⟩ := pick_at a0 6 (by omega) (by omega)
  obtain ⟨q, hq2, hq⟩ : ∃ q : Nat, (q : Int) < 2 ∧ bits .and .i64 a0 1 = q := ⟨(a0 % 2).toNat, by omega, by rw [mask1]; omega⟩
  exact readsetForms_at hM hW hG hC a0 a1 (a1 % 1024) p q w (mask1023 a1) (by omega) (by omega) hp hp6 hq hq2

end Go.Proofs.Ytleemagdidffpaa
