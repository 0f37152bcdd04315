/-
  The landed mach: are all words that a session names there?
-/
import Derived.Test.YtnjognmnbpcaaaaGreatZhAskAll
import Derived.Test.YtnjognmnbpcaaaaGreatZlai
namespace Go.Proofs.YtnjognmnbpcaaaaGreat
open Go.RowKit
set_option linter.unusedSimpArgs false
set_option linter.unusedVariables false
/-- Asked of words whose level is one. -/
def holdI (s : Nat → Sl) (z : Nat → Int) (k : Nat) : Bool := !namesW z k || decide (z (k * 4 + 3) < ((s (z (k * 4 + 2)).toNat).n : Int))
def holdR (s : Nat → Sl) (z : Nat → Int) (k : Nat) : Bool := decide (z (k * 3 + 1) < ((s (z (k * 3)).toNat).n : Int))
def holdP (s : Nat → Sl) (x : PSess) : Bool := allTo (holdI s (lz x.prog)) x.pn && (allTo (holdR s (lz x.reads)) x.rn && allTo (holdR s (lz x.writes)) x.tn)
set_option maxHeartbeats 1000000 in
theorem mhas_any (s : Nat → Sl) (l i : Int) (w : World) (hl : 0 ≤ l ∧ l < 4) :
    Calls Tryz.prog 130 #[arenaA s, .int .i64 l, .int .i64 i] w fun e w' => e = .returned (.bool (decide (i < ((s l.toNat).n : Int)))) ∧ Below w.heap.size w w' := by
  obtain ⟨g, rfl⟩ : ∃ g : Nat, l = g := ⟨l.toNat, by omega⟩
  have hg : g < 4 := by omega
  have i1 : (g : Int) < 4 := by omega
  rw [Int.toNat_natCast]
  have HS := hide (St.refl w)
  go_enter Tryz.func130, Tryz.ntmps130
  by_cases h : i < ((s g).n : Int)
  · rw [decide_eq_true h]
    go_wp2_with (first | ((with_reducible refine isList ?_); first | (refine st_box HS _ _ rfl rfl (arenaL s) rfl ?_; clear HS; intro W ba HS) | (refine st_load1 HS 0 rfl _ _ rfl g rfl rfl (by decide +kernel) (arenaL_get s hg) ?_)))
    go_ret
    exact ⟨rfl, HS.out.below⟩
  · rw [decide_eq_false h]
    go_wp2_with (first | ((with_reducible refine isList ?_); first | (refine st_box HS _ _ rfl rfl (arenaL s) rfl ?_; clear HS; intro W ba HS) | (refine st_load1 HS 0 rfl _ _ rfl g rfl rfl (by decide +kernel) (arenaL_get s hg) ?_)))
    go_ret
    exact ⟨rfl, HS.out.below⟩
set_option maxHeartbeats 1000000 in
theorem hold1_any (s : Nat → Sl) (b : Nat) (l i v : Int) (w : World) (hB : Blk w b (arenaL s)) (hl : 0 ≤ l ∧ l < 4) :
    Calls Tryz.prog 129 #[.agg #[.int .i64 l, .int .i64 i, .int .i64 v], .pointer (some ⟨b, 0, none⟩)] w fun e w' => e = .returned (.bool (decide (i < ((s l.toNat).n : Int)))) ∧ Below w.heap.size w w' := by
  have HS := hide (St.refl w)
  have hR := hide fun W (hb : Below w.heap.size w W) => (hB.on hb).range
  have hH := hide fun W => mhas_any s l i W hl
  obtain ⟨r, hr⟩ : ∃ r, r = decide (i < ((s l.toNat).n : Int)) := ⟨_, rfl⟩
  rw [← hr] at hH ⊢
  clear hB hl hr
  go_enter Tryz.func129, Tryz.ntmps129
  go_wp2_with (first | ((with_reducible refine isList ?_); first | (refine st_box HS _ _ rfl rfl [.int .i64 l, .int .i64 i, .int .i64 v] rfl ?_; clear HS; intro W ba HS) | (refine st_load1 HS 0 rfl _ _ rfl _ rfl rfl (by decide +kernel) rfl ?_) | (refine wpList_load_at _ _ rfl rfl b 0 rfl (arenaL s) (by decide +kernel) (by kernel_rfl) (hR.out _ HS.out.below) ?_)))
  refine (hH.out _).mono ?_
  rintro e w1 ⟨rfl, hb⟩
  replace HS := hide (HS.out.on hb)
  clear hb
  go_wp2
  go_ret
  exact ⟨rfl, HS.out.below⟩
set_option maxHeartbeats 1000000 in
theorem hold2_any (s : Nat → Sl) (b : Nat) (l i v : Int) (w : World) (hB : Blk w b (arenaL s)) (hl : 0 ≤ l ∧ l < 4) :
    Calls Tryz.prog 132 #[.agg #[.int .i64 l, .int .i64 i, .int .i64 v], .pointer (some ⟨b, 0, none⟩)] w fun e w' => e = .returned (.bool (decide (i < ((s l.toNat).n : Int)))) ∧ Below w.heap.size w w' := by
  have HS := hide (St.refl w)
  have hR := hide fun W (hb : Below w.heap.size w W) => (hB.on hb).range
  have hH := hide fun W => mhas_any s l i W hl
  obtain ⟨r, hr⟩ : ∃ r, r = decide (i < ((s l.toNat).n : Int)) := ⟨_, rfl⟩
  rw [← hr] at hH ⊢
  clear hB hl hr
  go_enter Tryz.func132, Tryz.ntmps132
  go_wp2_with (first | ((with_reducible refine isList ?_); first | (refine st_box HS _ _ rfl rfl [.int .i64 l, .int .i64 i, .int .i64 v] rfl ?_; clear HS; intro W ba HS) | (refine st_load1 HS 0 rfl _ _ rfl _ rfl rfl (by decide +kernel) rfl ?_) | (refine wpList_load_at _ _ rfl rfl b 0 rfl (arenaL s) (by decide +kernel) (by kernel_rfl) (hR.out _ HS.out.below) ?_)))
  refine (hH.out _).mono ?_
  rintro e w1 ⟨rfl, hb⟩
  replace HS := hide (HS.out.on hb)
  clear hb
  go_wp2
  go_ret
  exact ⟨rfl, HS.out.below⟩
set_option maxHeartbeats 1000000 in
theorem holdNamed_any (s : Nat → Sl) (c a b d : Int) (w : World) (hl : c = 2 ∨ c = 3 → 0 ≤ b ∧ b < 4) :
    Calls Tryz.prog 127 #[arenaA s, .agg #[.int .i64 c, .int .i64 a, .int .i64 b, .int .i64 d]] w fun e w' => e = .returned (.bool (!((c == 2) || (c == 3)) || decide (d < ((s b.toNat).n : Int)))) ∧ Below w.heap.size w w' := by
  have HS := hide (St.refl w)
  have hH := hide fun (h : c = 2 ∨ c = 3) W => mhas_any s b d W (hl h)
  obtain ⟨r, hr⟩ : ∃ r, r = decide (d < ((s b.toNat).n : Int)) := ⟨_, rfl⟩
  rw [← hr] at hH ⊢
  clear hl hr
  go_enter Tryz.func127, Tryz.ntmps127
  go_upto_region 1 with (first | ((with_reducible refine isList ?_); first | (refine st_box HS _ _ rfl rfl (arenaL s) rfl ?_; clear HS; intro W ba HS) | (refine st_box HS _ _ rfl rfl [.int .i64 c, .int .i64 a, .int .i64 b, .int .i64 d] rfl ?_; clear HS; intro W bi HS)))
  replace HS : Hid (St w W [blkI bi [.int .i64 c, .int .i64 a, .int .i64 b, .int .i64 d], blkI ba (arenaL s)]) := HS
  obtain ⟨⟨c0, c1, c2, c3⟩, f0, f1, f2, f3⟩ := (HS.out.blk 0 rfl).four
  obtain ⟨⟨a0, a1, a2, a3⟩, g0, g1, g2, g3⟩ := (HS.out.blk 1 rfl).four
  by_cases h2 : c = 2
  · have hb2 : (c != 2) = false := by simpa using h2
    have hv : Hid ((!((c == 2) || (c == 3)) || r) = r) := by show _ = _; rw [h2]; rfl
    have hH2 := hide (hH.out (.inl h2))
    replace h2 := hide h2
    clear hH
    go_wp2_with fail
    refine (hH2.out _).mono ?_
    rintro e w1 ⟨rfl, hb⟩
    replace HS := hide (HS.out.on hb)
    clear hb
    go_wp2
    go_ret
    exact ⟨ret_bool (by rw [hv.out]; try simp), HS.out.below⟩
  · have hb2 : (c != 2) = true := by simpa using h2
    by_cases h3 : c = 3
    · have hb3 : (c != 3) = false := by simpa using h3
      have hv : Hid ((!((c == 2) || (c == 3)) || r) = r) := by show _ = _; rw [h3]; rfl
      have hH2 := hide (hH.out (.inr h3))
      replace h2 := hide h2
      replace h3 := hide h3
      clear hH
      go_wp2_with fail
      refine (hH2.out _).mono ?_
      rintro e w1 ⟨rfl, hb⟩
      replace HS := hide (HS.out.on hb)
      clear hb
      go_wp2
      go_ret
      exact ⟨ret_bool (by rw [hv.out]; try simp), HS.out.below⟩
    · have hb3 : (c != 3) = true := by simpa using h3
      have hv : Hid ((!((c == 2) || (c == 3)) || r) = true) := by show _ = _; rw [show (c == 2) = false by simpa using h2, show (c == 3) = false by simpa using h3]; rfl
      replace h2 := hide h2
      replace h3 := hide h3
      clear hH
      go_wp2
      go_ret
      exact ⟨ret_bool (by rw [hv.out]; try simp), HS.out.below⟩
set_option maxRecDepth 10000 in
set_option maxHeartbeats 1000000 in
theorem hold_any (s : Nat → Sl) (q : SesM) (x : PSess) (w : World) (h : SessIs w q x)
    (h1 : ∀ k, k < x.pn → lz x.prog (k * 4) = 2 ∨ lz x.prog (k * 4) = 3 → 0 ≤ lz x.prog (k * 4 + 2) ∧ lz x.prog (k * 4 + 2) < 4) (h2 : ∀ k, k < x.rn → 0 ≤ lz x.reads (k * 3) ∧ lz x.reads (k * 3) < 4) (h3 : ∀ k, k < x.tn → 0 ≤ lz x.writes (k * 3) ∧ lz x.writes (k * 3) < 4) :
    Calls Tryz.prog 102 #[arenaA s, .agg (sessOf q x).toArray] w fun e w' => e = .returned (.bool (holdP s x)) ∧ Below w.heap.size w w' := by
  have e1 : x.pn = q.p.n := h.2.1.len (by decide)
  have e2 : x.rn = q.r.n := h.2.2.1.len (by decide)
  have e3 : x.tn = q.t.n := h.2.2.2.len (by decide)
  have HP : Hid (holdP s x = (allTo (holdI s (lz x.prog)) q.p.n && (allTo (holdR s (lz x.reads)) q.r.n && allTo (holdR s (lz x.writes)) q.t.n))) := by show _ = _; unfold holdP; rw [e1, e2, e3]
  have hI := hide fun (W : World) (hb : Below w.heap.size w W) => h.below hb
  rw [e1] at h1
  rw [e2] at h2
  rw [e3] at h3
  replace h1 := hide h1
  replace h2 := hide h2
  replace h3 := hide h3
  clear h e1 e2 e3
  have HS := hide (St.refl w)
  go_enter Tryz.func102, Tryz.ntmps102
  go_upto_region 1 with (first | ((with_reducible refine isList ?_); first | (refine st_box HS _ _ rfl rfl (arenaL s) rfl ?_; clear HS; intro W ba HS) | (refine st_box HS _ _ rfl rfl (sessOf q x) rfl ?_; clear HS; intro W bi HS)))
  replace HS : Hid (St w W [blkI bi (sessOf q x), blkI ba (arenaL s)]) := HS
  have c3 : W.cell? ⟨bi, 3, none⟩ = some (.slice q.p.a q.p.n q.p.c) := (HS.out.blk 0 rfl).cell 3 _ rfl
  obtain ⟨⟨a0, a1, a2, a3⟩, g0, g1, g2, g3⟩ := (HS.out.blk 1 rfl).four
  go_wp2_with fail
  refine (askAllI_any 127 #[arenaA s] #[] (holdI s (lz x.prog)) q.p x.prog W ((hI.out _ HS.out.below).2.1) (fun _ _ => rfl) (fun k hk W' hb => holdNamed_any s _ _ _ _ W' (h1.out k hk))).mono ?_
  rintro e w1 ⟨rfl, hb⟩
  replace HS := hide (HS.out.on hb)
  clear hb c3 a0 a1 a2 a3 g0 g1 g2 g3
  cases hp : allTo (holdI s (lz x.prog)) q.p.n
  · go_wp2
    go_ret
    exact ⟨ret_bool (by rw [HP.out, hp]; rfl), HS.out.below⟩
  · have c10 : w1.cell? ⟨bi, 10, none⟩ = some (.slice q.r.a q.r.n q.r.c) := (HS.out.blk 0 rfl).cell 10 _ rfl
    go_wp2_with fail
    refine (askAll_any 129 #[] #[.pointer (some ⟨ba, 0, none⟩)] (holdR s (lz x.reads)) q.r.a q.r.n q.r.c (lz x.reads) w1 (by have := (hI.out _ HS.out.below).2.2.1.2.1.1; omega) ((hI.out _ HS.out.below).2.2.1.2.2) (fun _ _ => rfl) (fun k hk W' hb => hold1_any s ba _ _ _ W' ((HS.out.blk 1 rfl).on hb) (h2.out k hk))).mono ?_
    rintro e w2 ⟨rfl, hb⟩
    replace HS := hide (HS.out.on hb)
    clear hb c10
    cases hr : allTo (holdR s (lz x.reads)) q.r.n
    · go_wp2
      go_ret
      exact ⟨ret_bool (by rw [HP.out, hp, hr]; rfl), HS.out.below⟩
    · have c11 : w2.cell? ⟨bi, 11, none⟩ = some (.slice q.t.a q.t.n q.t.c) := (HS.out.blk 0 rfl).cell 11 _ rfl
      go_wp2_with fail
      refine (askAllW_any 132 #[] #[.pointer (some ⟨ba, 0, none⟩)] (holdR s (lz x.writes)) q.t.a q.t.n q.t.c (lz x.writes) w2 (by have := (hI.out _ HS.out.below).2.2.2.2.1.1; omega) ((hI.out _ HS.out.below).2.2.2.2.2) (fun _ _ => rfl) (fun k hk W' hb => hold2_any s ba _ _ _ W' ((HS.out.blk 1 rfl).on hb) (h3.out k hk))).mono ?_
      rintro e w3 ⟨rfl, hb⟩
      replace HS := hide (HS.out.on hb)
      clear hb c11
      go_wp2
      go_ret
      exact ⟨ret_bool (by rw [HP.out, hp, hr]; rfl), HS.out.below⟩
end Go.Proofs.YtnjognmnbpcaaaaGreat
