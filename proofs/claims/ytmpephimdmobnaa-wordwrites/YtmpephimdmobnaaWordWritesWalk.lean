/-
  The law WordWrites: what is written stands, free, whatever was there, locked or not. Its walk.
-/
import Derived.Test.YtmpephimdmobnaaWordAwake
import Derived.Test.YtmpephimdmobnaaPlain
namespace Go.Proofs.Ytmpephimdmobnaa
open Go.RowKit

theorem wordWrites_no (v n l i x y p q : Int) (w : World) (hm : wmay v n l = false) (m1 : bits .and .i64 p 255 = x) (m2 : bits .and .i64 q 65535 = y) :
    Calls Try.prog 6 #[.agg #[.int .i64 v, .int .i64 n, .int .i64 l], .int .i64 i, .int .i64 p, .int .i64 q] w fun e w' => e = .returned (.bool true) ∧ Below w.heap.size w w' := by
  obtain ⟨e1, e2⟩ := writeW_form (v := v) (n := n) (l := l) (x := x) (y := y) (by rw [hm]; rfl)
  go_enter Try.func6, Try.ntmps6
  go_wp2_with fail
  refine (awake3_any _).mono ?_
  rintro e w1 ⟨rfl, hb⟩
  have B0 := (blk_new w _ _).on hb
  have b1 : Below w.heap.size w w1 := Below.on (by go_grown) hb
  have z0 := B0.lt
  clear hb
  obtain ⟨⟨c0, c1, c2⟩, f0, f1, f2⟩ := B0.three
  go_wp2_with fail
  refine (write_any v n l x y _).mono ?_
  rintro e w2 ⟨rfl, hb⟩
  rw [e1, e2]
  clear e1 e2 c0 c1 c2 f0 f1 f2 z0
  have b2 : Below w.heap.size w w2 := Below.on b1 hb
  replace B0 := B0.on hb
  have z0 := B0.lt
  clear hb b1
  unfold wordA
  obtain ⟨⟨c0, c1, c2⟩, f0, f1, f2⟩ := B0.three
  go_wp2_with (go_at_call 14; go_in)
  refine (wmay_any v n l _).mono ?_
  rintro e w3 ⟨rfl, hb⟩
  rw [hm]
  have B1 := (blk_new w2 _ _).on hb
  have b3 : Below w.heap.size w w3 := Below.on (b2.alloc b2.size _) hb
  clear hb b2 c0 c1 c2 f0 f1 f2 z0 B0
  have z1 := B1.lt
  obtain ⟨⟨c0, c1, c2⟩, f0, f1, f2⟩ := B1.three
  go_wp2
  go_ret
  exact ⟨rfl, b3⟩

set_option maxHeartbeats 1000000 in
theorem wordWrites_yes (v n l i j x y p q : Int) (w : World) (hm : wmay v n l = true) (m1 : bits .and .i64 p 255 = x) (m2 : bits .and .i64 q 65535 = y) (m3 : bits .and .i64 i 127 = j) (hx : upToV x 255 = true) (hy : upToV y 65535 = true) (hj : upToV j 254 = true) :
    Calls Try.prog 6 #[.agg #[.int .i64 v, .int .i64 n, .int .i64 l], .int .i64 i, .int .i64 p, .int .i64 q] w fun e w' => e = .returned (.bool true) ∧ Below w.heap.size w w' := by
  have hxy : wmay x y 0 = true := wmay_of hx hy rfl
  obtain ⟨j0, j1⟩ := upToV_yes hj
  have hxj : wmay x y (j + 1) = true := wmay_of hx hy (upToV_of (by omega) (by omega))
  obtain ⟨e1, e2⟩ := writeW_ok hm hxy
  obtain ⟨e3, e4⟩ := lockW_ok hxy hj rfl
  obtain ⟨e5, e6⟩ := writeW_ok hxj hxy
  go_enter Try.func6, Try.ntmps6
  go_wp2_with fail
  refine (awake3_any _).mono ?_
  rintro e w1 ⟨rfl, hb⟩
  have B0 := (blk_new w _ _).on hb
  have b1 : Below w.heap.size w w1 := Below.on (by go_grown) hb
  have z0 := B0.lt
  clear hb
  obtain ⟨⟨c0, c1, c2⟩, f0, f1, f2⟩ := B0.three
  go_wp2_with fail
  refine (write_any v n l x y _).mono ?_
  rintro e w2 ⟨rfl, hb⟩
  rw [e1, e2]
  clear e1 e2 c0 c1 c2 f0 f1 f2 z0 B0
  have b2 : Below w.heap.size w w2 := Below.on b1 hb
  clear hb b1
  unfold wordA
  go_wp2_with (go_at_call 14; go_in)
  refine (lock_any x y 0 j _).mono ?_
  rintro e w3 ⟨rfl, hb⟩
  rw [e3, e4]
  clear e3 e4
  have B1 := (blk_new w2 _ _).on hb
  have b3 : Below w.heap.size w w3 := Below.on (b2.alloc b2.size _) hb
  clear hb b2
  unfold wordA
  go_wp2_with fail
  refine (write_any x y (j + 1) x y _).mono ?_
  rintro e w4 ⟨rfl, hb⟩
  rw [e5, e6]
  clear e5 e6
  replace B1 := (B1.alloc _).on hb
  have b4 : Below w.heap.size w w4 := Below.on (b3.alloc b3.size _) hb
  have z1 := B1.lt
  clear hb b3
  obtain ⟨⟨c0, c1, c2⟩, f0, f1, f2⟩ := B1.three
  unfold wordA
  go_wp2_with (go_at_call 14; go_in)
  go_ret
  exact ⟨rfl, b4.alloc b4.size _⟩

theorem wordWrites_walk (v n l : Int) (i p q : Int) (w : World) (_ : (Lit.int .i64 v).wf = true) (_ : (Lit.int .i64 n).wf = true) (_ : (Lit.int .i64 l).wf = true) (_ : (Lit.int .i64 i).wf = true) (_ : (Lit.int .i64 p).wf = true) (_ : (Lit.int .i64 q).wf = true) :
    Calls Try.prog 6 #[.agg #[.int .i64 v, .int .i64 n, .int .i64 l], .int .i64 i, .int .i64 p, .int .i64 q] w fun e w' => e = .returned (.bool true) ∧ Below w.heap.size w w' := by
  cases hm : wmay v n l
  · exact wordWrites_no v n l i _ _ p q w hm (mask255 p) (mask65535 q)
  · exact wordWrites_yes v n l i (i % 128) (p % 256) (q % 65536) p q w hm (mask255 p) (mask65535 q) (mask127 i) (upToV_of (by omega) (by omega)) (upToV_of (by omega) (by omega)) (upToV_of (by omega) (by omega))

end Go.Proofs.Ytmpephimdmobnaa
