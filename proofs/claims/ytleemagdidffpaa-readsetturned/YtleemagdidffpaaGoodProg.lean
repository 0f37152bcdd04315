/-
  What the landed package readset's has, of and unchanged hand back.
-/
import Derived.Test.YtleemagdidffpaaReadsProg
import Derived.Test.YtleemagdidffpaaArenaProgMay
namespace Go.Proofs.Ytleemagdidffpaa
open Go.RowKit
set_option linter.unusedSimpArgs false
set_option linter.unusedVariables false

set_option maxHeartbeats 1000000 in
/-- Is a read's word there? Of a read that may be. -/
theorem has_rc (s : Nat → Sl) (l i v : Int) (w : World) (hm : readMay l i v = true) :
    Calls Try.prog 44 #[arenaA s, .agg #[.int .i64 l, .int .i64 i, .int .i64 v]] w fun e w' => e = .returned (.bool (thereV s l i)) ∧ Below w.heap.size w w' := by
  obtain ⟨h1, h2, _⟩ := readMay_yes hm
  obtain ⟨l0, l1⟩ := upToV_yes h1
  obtain ⟨j0, j1⟩ := upToV_yes h2
  obtain ⟨g, rfl⟩ : ∃ g : Nat, l = g := ⟨l.toNat, by omega⟩
  have hg : g < 4 := by omega
  have i1 : (g : Int) < 4 := by omega
  have ht : thereV s (g : Int) i = decide (i < ((s g).n : Int)) := by
    unfold thereV
    rw [Int.toNat_natCast]
    exact decide_eq_decide.2 ⟨fun x => x.2.2, fun x => ⟨⟨by omega, by omega⟩, j0, x⟩⟩
  rw [ht]
  clear ht hm h1 h2
  have B1 := (blk_new w (arenaL s) 63).alloc (.cells #[.int .i64 (g : Int), .int .i64 i, .int .i64 v] 24)
  have B2 := blk_new (w.alloc (.cells (arenaL s).toArray 63)) [.int .i64 (g : Int), .int .i64 i, .int .i64 v] 24
  rw [World.size_alloc] at B2
  have b0 : Below w.heap.size w ((w.alloc (.cells (arenaL s).toArray 63)).alloc (.cells #[.int .i64 (g : Int), .int .i64 i, .int .i64 v] 24)) := by go_grown
  unfold arenaA
  go_enter Try.func44, Try.ntmps44
  go_upto_region 1 with (fail)
  change Blk ((w.alloc (.cells #[.slice (s 0).a (s 0).n (s 0).c, .slice (s 1).a (s 1).n (s 1).c, .slice (s 2).a (s 2).n (s 2).c, .slice (s 3).a (s 3).n (s 3).c] 63)).alloc (.cells #[.int .i64 (g : Int), .int .i64 i, .int .i64 v] 24)) _ _ at B1 B2
  change Below w.heap.size w ((w.alloc (.cells #[.slice (s 0).a (s 0).n (s 0).c, .slice (s 1).a (s 1).n (s 1).c, .slice (s 2).a (s 2).n (s 2).c, .slice (s 3).a (s 3).n (s 3).c] 63)).alloc (.cells #[.int .i64 (g : Int), .int .i64 i, .int .i64 v] 24)) at b0
  generalize (w.alloc (.cells #[.slice (s 0).a (s 0).n (s 0).c, .slice (s 1).a (s 1).n (s 1).c, .slice (s 2).a (s 2).n (s 2).c, .slice (s 3).a (s 3).n (s 3).c] 63)).alloc (.cells #[.int .i64 (g : Int), .int .i64 i, .int .i64 v] 24) = W at *
  have c1 := B1.cell g _ (arenaL_get s hg)
  obtain ⟨⟨d0, d1, d2⟩, f0, f1, f2⟩ := B2.three
  go_quiet (fail)
  go_wp2
  go_ret
  exact ⟨rfl, Below.drawn b0 _⟩

set_option maxHeartbeats 1000000 in
/-- A read's word. -/
theorem of_rc (s : Nat → Sl) (y : Nat → Nat → Int) (g j : Nat) (v : Int) (w : World) (hg : g < 4) (hj : j < (s g).n) (h : Arn w s y) :
    Calls Try.prog 33 #[arenaA s, .agg #[.int .i64 (g : Int), .int .i64 (j : Int), .int .i64 v]] w fun e w' => e = .returned (wordA (y g (j * 3)) (y g (j * 3 + 1)) (y g (j * 3 + 2))) ∧ Below w.heap.size w w' := by
  have i1 : (g : Int) < 4 := by omega
  have i2 : (j : Int) < ((s g).n : Int) := by omega
  have B1 := ((blk_new w (arenaL s) 63).alloc (.cells #[.int .i64 (g : Int), .int .i64 (j : Int), .int .i64 v] 24)).alloc (.cells #[.int .i64 0, .int .i64 0, .int .i64 0] 53)
  have B2 := (blk_new (w.alloc (.cells (arenaL s).toArray 63)) [.int .i64 (g : Int), .int .i64 (j : Int), .int .i64 v] 24).alloc (.cells #[.int .i64 0, .int .i64 0, .int .i64 0] 53)
  have B3 := blk_new ((w.alloc (.cells (arenaL s).toArray 63)).alloc (.cells #[.int .i64 (g : Int), .int .i64 (j : Int), .int .i64 v] 24)) [.int .i64 0, .int .i64 0, .int .i64 0] 53
  rw [World.size_alloc] at B2
  rw [World.size_alloc, World.size_alloc] at B3
  have b0 : Below w.heap.size w (((w.alloc (.cells (arenaL s).toArray 63)).alloc (.cells #[.int .i64 (g : Int), .int .i64 (j : Int), .int .i64 v] 24)).alloc (.cells #[.int .i64 0, .int .i64 0, .int .i64 0] 53)) := by go_grown
  unfold arenaA wordA
  go_enter Try.func33, Try.ntmps33
  go_upto_region 1 with (fail)
  change Blk (((w.alloc (.cells #[.slice (s 0).a (s 0).n (s 0).c, .slice (s 1).a (s 1).n (s 1).c, .slice (s 2).a (s 2).n (s 2).c, .slice (s 3).a (s 3).n (s 3).c] 63)).alloc (.cells #[.int .i64 (g : Int), .int .i64 (j : Int), .int .i64 v] 24)).alloc (.cells #[.int .i64 0, .int .i64 0, .int .i64 0] 53)) _ _ at B1 B2 B3
  change Below w.heap.size w (((w.alloc (.cells #[.slice (s 0).a (s 0).n (s 0).c, .slice (s 1).a (s 1).n (s 1).c, .slice (s 2).a (s 2).n (s 2).c, .slice (s 3).a (s 3).n (s 3).c] 63)).alloc (.cells #[.int .i64 (g : Int), .int .i64 (j : Int), .int .i64 v] 24)).alloc (.cells #[.int .i64 0, .int .i64 0, .int .i64 0] 53)) at b0
  generalize ((w.alloc (.cells #[.slice (s 0).a (s 0).n (s 0).c, .slice (s 1).a (s 1).n (s 1).c, .slice (s 2).a (s 2).n (s 2).c, .slice (s 3).a (s 3).n (s 3).c] 63)).alloc (.cells #[.int .i64 (g : Int), .int .i64 (j : Int), .int .i64 v] 24)).alloc (.cells #[.int .i64 0, .int .i64 0, .int .i64 0] 53) = W at *
  obtain ⟨b, off, hsa, hbl, q0, q1, q2⟩ := (h.below b0 (Nat.le_refl _) g hg).at3 j hj
  have c1 := B1.cell g _ (arenaL_get s hg)
  rw [hsa] at c1
  obtain ⟨⟨d0, d1, d2⟩, f0, f1, f2⟩ := B2.three
  obtain ⟨⟨e0, e1, e2⟩, g0, g1, g2⟩ := B3.three
  have y3 := B3.lt
  clear h hsa
  go_region
  go_wp2
  exact bodyPost_ret (v := .agg #[.int .i64 (y g (j * 3)), .int .i64 (y g (j * 3 + 1)), .int .i64 (y g (j * 3 + 2))]) (by simp [results, Try.results33, go_sem, e0, e1, e2, y3]) rfl ⟨rfl, by go_grown⟩

/-- A word's version, its lock. -/
theorem field_1 (x y z : Value) (W : World) : Sem.run Try.prog (Instr.field 53 (.agg #[x, y, z]) 1) W = .ok y W := by
  simp [Instr.field, Try.underlying53, asAgg, Result.andThen, go_sem]
theorem field_2 (x y z : Value) (W : World) : Sem.run Try.prog (Instr.field 53 (.agg #[x, y, z]) 2) W = .ok z W := by
  simp [Instr.field, Try.underlying53, asAgg, Result.andThen, go_sem]

set_option maxHeartbeats 1000000 in
/-- Is a read's word of that version? -/
theorem unchanged_rc (s : Nat → Sl) (y : Nat → Nat → Int) (g j : Nat) (v : Int) (w : World) (hg : g < 4) (hj : j < (s g).n) (h : Arn w s y) :
    Calls Try.prog 34 #[arenaA s, .agg #[.int .i64 (g : Int), .int .i64 (j : Int), .int .i64 v]] w fun e w' => e = .returned (.bool (y g (j * 3 + 1) == v)) ∧ Below w.heap.size w w' := by
  have CO := hide fun w h => of_rc s y g j v w hg hj h
  have B1 := (blk_new w (arenaL s) 63).alloc (.cells #[.int .i64 (g : Int), .int .i64 (j : Int), .int .i64 v] 24)
  have B2 := blk_new (w.alloc (.cells (arenaL s).toArray 63)) [.int .i64 (g : Int), .int .i64 (j : Int), .int .i64 v] 24
  rw [World.size_alloc] at B2
  have b0 : Below w.heap.size w ((w.alloc (.cells (arenaL s).toArray 63)).alloc (.cells #[.int .i64 (g : Int), .int .i64 (j : Int), .int .i64 v] 24)) := by go_grown
  unfold arenaA wordA at *
  go_enter Try.func34, Try.ntmps34
  go_upto_region 1 with (fail)
  change Blk ((w.alloc (.cells #[.slice (s 0).a (s 0).n (s 0).c, .slice (s 1).a (s 1).n (s 1).c, .slice (s 2).a (s 2).n (s 2).c, .slice (s 3).a (s 3).n (s 3).c] 63)).alloc (.cells #[.int .i64 (g : Int), .int .i64 (j : Int), .int .i64 v] 24)) _ _ at B1 B2
  change Below w.heap.size w ((w.alloc (.cells #[.slice (s 0).a (s 0).n (s 0).c, .slice (s 1).a (s 1).n (s 1).c, .slice (s 2).a (s 2).n (s 2).c, .slice (s 3).a (s 3).n (s 3).c] 63)).alloc (.cells #[.int .i64 (g : Int), .int .i64 (j : Int), .int .i64 v] 24)) at b0
  generalize (w.alloc (.cells #[.slice (s 0).a (s 0).n (s 0).c, .slice (s 1).a (s 1).n (s 1).c, .slice (s 2).a (s 2).n (s 2).c, .slice (s 3).a (s 3).n (s 3).c] 63)).alloc (.cells #[.int .i64 (g : Int), .int .i64 (j : Int), .int .i64 v] 24) = W at *
  obtain ⟨p0, p1, p2, p3⟩ := B1.kin4
  obtain ⟨q0, q1, q2⟩ := B2.kin3
  have HK := hide fun u : Kin W => Calls.kin_of (u := u) (CO.out u.at_ ((h.below b0 (Nat.le_refl _)).below u.below (Nat.le_refl _)))
  have kne : Nonempty (Kin W) := kin_any W
  have hf := fun W => field_1 (.int .i64 (y g (j * 3))) (.int .i64 (y g (j * 3 + 1))) (.int .i64 (y g (j * 3 + 2))) W
  clear CO h
  refine wp_region_kin (by kernel_rfl) (by kernel_rfl) ?_
  repeat (go_big_quiet_step ((go_at_call 33; exact HK.out _)))
  refine wpQuiet_nil ?_
  rintro _ ⟨u, rfl⟩
  have b3 : Below w.heap.size w u.at_ := b0.trans (u.below.mono b0.size)
  clear p0 p1 p2 p3 q0 q1 q2 HK kne B1 B2 b0 hf
  generalize u.at_ = V at *
  clear u
  go_wp2
  go_ret
  exact ⟨rfl, b3⟩

end Go.Proofs.Ytleemagdidffpaa
