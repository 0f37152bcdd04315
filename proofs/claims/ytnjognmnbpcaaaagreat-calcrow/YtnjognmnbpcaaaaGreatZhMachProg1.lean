/-
  The landed mach.May.
-/
import Derived.Test.YtnjognmnbpcaaaaGreatZlba
import Derived.Test.YtnjognmnbpcaaaaGreatZlae
import Derived.Test.YtnjognmnbpcaaaaGreatZlad
import Derived.Test.YtnjognmnbpcaaaaGreatZhRegsProg
import Derived.Test.YtnjognmnbpcaaaaGreatZlab
namespace Go.Proofs.YtnjognmnbpcaaaaGreat
open Go.RowKit
set_option linter.unusedSimpArgs false
set_option linter.unusedVariables false
theorem allTo_up (c : Nat → Int) (m : Int) : ∀ n, allTo (fun k => upToV (c k) m) n = allUp c m n
  | 0 => rfl
  | n + 1 => by rw [allTo, allUp, allTo_up c m n]
set_option maxRecDepth 100000 in
set_option maxHeartbeats 1000000 in
theorem clock1_any (c m : Int) (b : Nat) (w : World) (hB : Blk w b [.int .i64 m]) :
    Calls Tryz.prog 118 #[.int .i64 c, .pointer (some ⟨b, 0, none⟩)] w fun e w' => e = .returned (.bool (upToV c m)) ∧ Below w.heap.size w w' := by
  have c0 := hB.cell 0 _ rfl
  clear hB
  go_enter Tryz.func118, Tryz.ntmps118
  go_wp2_with fail
  refine (askUpTo_any _ _ _).mono ?_
  rintro e w' ⟨rfl, rfl⟩
  go_wp2
  go_ret
  exact ⟨rfl, Below.refl _ _⟩
set_option maxRecDepth 100000 in
set_option maxHeartbeats 1000000 in
theorem clocksMay_any (c : Nat → Int) (m : Int) (w : World) :
    Calls Tryz.prog 97 #[quadA c, .int .i64 m] w fun e w' => e = .returned (.bool (upToV m 65535 && allUp c m 4)) ∧ Below w.heap.size w w' := by
  have HS := hide (St.refl w)
  go_enter Tryz.func97, Tryz.ntmps97
  go_upto_region 1 with (first | ((with_reducible refine isList ?_); first | (refine st_box HS _ _ rfl rfl (quadL c) rfl ?_; clear HS; intro W bq HS) | (refine st_box HS _ _ rfl rfl [.int .i64 m] rfl ?_; clear HS; intro W bc HS)))
  replace HS : Hid (St w W [blkI bc [.int .i64 m], blkI bq (quadL c)]) := HS
  have c0 := (HS.out.blk 0 rfl).cell 0 _ rfl
  go_wp2_with fail
  refine (askUpTo_any _ _ _).mono ?_
  rintro e w' ⟨rfl, rfl⟩
  cases h : upToV m 65535
  · go_wp2
    go_ret
    exact ⟨ret_bool (by rw [h]; rfl), HS.out.below⟩
  · go_wp2_with fail
    refine (askAllN_any 118 #[] #[.pointer (some ⟨bc, 0, none⟩)] (fun k => upToV (c k) m) bq 4 4 c W (by decide) (fun _ _ => rfl) (fun k hk W' hb => ?_) (fun k hk W' hb => clock1_any (c k) m bc W' ((HS.out.blk 0 rfl).on hb))).mono ?_
    · have : k = 0 ∨ k = 1 ∨ k = 2 ∨ k = 3 := by omega
      have B := (HS.out.blk 1 rfl).on hb
      rcases this with rfl | rfl | rfl | rfl
      · exact B.cell 0 _ rfl
      · exact B.cell 1 _ rfl
      · exact B.cell 2 _ rfl
      · exact B.cell 3 _ rfl
    rintro e w1 ⟨rfl, hb⟩
    rw [allTo_up]
    replace HS := hide (HS.out.on hb)
    clear hb c0
    go_wp2
    go_ret
    exact ⟨ret_bool (by rw [h]; simp), HS.out.below⟩
set_option maxRecDepth 100000 in
set_option maxHeartbeats 1000000 in
theorem trace1_any (a l k v : Int) (w : World) :
    Calls Tryz.prog 120 #[.agg #[.int .i64 a, .int .i64 l, .int .i64 k, .int .i64 v]] w fun e w' => e = .returned (.bool (upToV l 3)) ∧ Below w.heap.size w w' := by
  have HS := hide (St.refl w)
  go_enter Tryz.func120, Tryz.ntmps120
  go_wp2_with (first | ((with_reducible refine isList ?_); first | (refine st_box HS _ _ rfl rfl [.int .i64 a, .int .i64 l, .int .i64 k, .int .i64 v] rfl ?_; clear HS; intro W bq HS) | (refine st_load1 HS 0 rfl _ _ rfl _ rfl rfl (by decide +kernel) rfl ?_)))
  refine (may_any _ _).mono ?_
  rintro e w' ⟨rfl, rfl⟩
  rw [mayV_up]
  go_wp2
  go_ret
  exact ⟨rfl, HS.out.below⟩
set_option maxRecDepth 100000 in
set_option maxHeartbeats 1000000 in
theorem traceMay_any (s : Sl) (L : List Int) (w : World) (h : SlIs w 4 s L) :
    Calls Tryz.prog 98 #[.slice s.a s.n s.c] w fun e w' => e = .returned (.bool (decide (s.n ≤ 512) && allTo (fun k => upToV (lz L (k * 4 + 1)) 3) s.n)) ∧ Below w.heap.size w w' := by
  have hA := hide (askAllE_any 120 #[] #[] (fun k => upToV (lz L (k * 4 + 1)) 3) s L w h (fun _ _ => rfl) (fun k hk W hb => trace1_any _ _ _ _ W))
  clear h
  go_enter Tryz.func98, Tryz.ntmps98
  by_cases hn : s.n ≤ 512
  · have i1 : (s.n : Int) ≤ 512 := by omega
    rw [decide_eq_true hn]
    replace hn := hide hn
    go_wp2_with fail
    refine hA.out.mono ?_
    rintro e w1 ⟨rfl, hb⟩
    go_wp2
    go_ret
    exact ⟨ret_bool (by simp), hb⟩
  · have i1 : ¬ (s.n : Int) ≤ 512 := by omega
    rw [decide_eq_false hn]
    replace hn := hide hn
    go_wp2
    go_ret
    exact ⟨rfl, Below.refl _ _⟩
/-- The session's own part. -/
def sess1P (x : PSess) : Bool := startMay (lz x.num 0) (lz x.num 1) (lz x.num 2) x.pn (lz x.prog) && (allUp (regsI (lz x.num)) 255 4 && (readsMay x.rn (lz x.reads) && (writesMay x.tn (lz x.writes) && (upToV (lz x.num 3) 6 && (upToV (lz x.num 4) x.pn && (upToV (lz x.num 9) x.tn && (upToV (lz x.num 10) 65535 && (upToV (lz x.num 11) 65535 && (upToV (lz x.num 12) 5 && upToV (lz x.num 13) 255)))))))))
set_option maxRecDepth 100000 in
set_option maxHeartbeats 1000000 in
theorem registersMay_any (c : Nat → Int) (w : World) :
    Calls Tryz.prog 123 #[quadA c] w fun e w' => e = .returned (.bool (allUp c 255 4)) ∧ Below w.heap.size w w' := by
  have hS := hide fun W => set_c c 0 0 W
  have hE : Hid ((setE c 0 0 == 0) = allUp c 255 4) := by
    show _ = _
    unfold setE setOk
    cases allUp c 255 4 <;> rfl
  obtain ⟨R, hR⟩ : ∃ R, R = setC c 0 0 := ⟨_, rfl⟩
  obtain ⟨E, hE0⟩ : ∃ E, E = setE c 0 0 := ⟨_, rfl⟩
  rw [← hR, ← hE0] at hS
  rw [← hE0] at hE
  clear hR hE0
  have HS := hide (St.refl w)
  go_enter Tryz.func123, Tryz.ntmps123
  go_wp2_with (first | ((with_reducible refine isList ?_); first | (refine st_box HS _ _ rfl rfl (quadL c) rfl ?_; clear HS; intro W bq HS) | (refine st_loadA HS 0 rfl _ _ rfl rfl rfl (by decide +kernel) (by kernel_rfl) ?_)))
  refine (hS.out _).mono ?_
  rintro e w1 ⟨rfl, hb⟩
  replace HS := hide (HS.out.on hb)
  clear hb hS
  go_wp2_with (first | ((with_reducible refine isList ?_); first | (refine st_alloc HS _ rfl rfl zeroQL zeroQ ?_; clear HS; intro W br HS) | (refine st_storeA HS 0 rfl _ _ _ rfl rfl rfl (quadL R) rfl rfl (by kernel_rfl) rfl ?_; clear HS; intro W HS)))
  go_ret
  exact ⟨ret_bool (by rw [← hE.out]; try simp), HS.out.below⟩
set_option maxRecDepth 100000 in
set_option maxHeartbeats 4000000 in
theorem sessionMay_any (q : SesM) (x : PSess) (w : World) (h : SessIs w q x) :
    Calls Tryz.prog 101 #[.agg (sessOf q x).toArray] w fun e w' => e = .returned (.bool (sess1P x)) ∧ Below w.heap.size w w' := by
  have e1 : x.pn = q.p.n := h.2.1.len (by decide)
  have e2 : x.rn = q.r.n := h.2.2.1.len (by decide)
  have e3 : x.tn = q.t.n := h.2.2.2.len (by decide)
  have HP : Hid (sess1P x = (startMay (lz x.num 0) (lz x.num 1) (lz x.num 2) q.p.n (lz x.prog) && (allUp (regsI (lz x.num)) 255 4 && (readsMay q.r.n (lz x.reads) && (writesMay q.t.n (lz x.writes) && (upToV (lz x.num 3) 6 && (upToV (lz x.num 4) q.p.n && (upToV (lz x.num 9) q.t.n && (upToV (lz x.num 10) 65535 && (upToV (lz x.num 11) 65535 && (upToV (lz x.num 12) 5 && upToV (lz x.num 13) 255))))))))))) := by show _ = _; unfold sess1P; rw [e1, e2, e3]
  have hI := hide fun (W : World) (hb : Below w.heap.size w W) => h.below hb
  clear h e1 e2 e3
  have eA : (.agg (sessOf q x).toArray : Value) = sessA (lz x.num) (.slice q.p.a q.p.n q.p.c) (.slice q.r.a q.r.n q.r.c) (.slice q.t.a q.t.n q.t.c) := rfl
  rw [eA]
  unfold sessA
  have HS := hide ((St.refl w).alloc [.int .i64 (lz x.num 0), .int .i64 (lz x.num 1), .int .i64 (lz x.num 2), .slice q.p.a q.p.n q.p.c, .int .i64 (lz x.num 3), .int .i64 (lz x.num 4), .int .i64 (lz x.num 5), .int .i64 (lz x.num 6), .int .i64 (lz x.num 7), .int .i64 (lz x.num 8), .slice q.r.a q.r.n q.r.c, .slice q.t.a q.t.n q.t.c, .int .i64 (lz x.num 9), .int .i64 (lz x.num 10), .int .i64 (lz x.num 11), .int .i64 (lz x.num 12), .int .i64 (lz x.num 13)] 44)
  have c0 := (HS.out.blk 0 rfl).cell 0 (.int .i64 (lz x.num 0)) rfl
  have c1 := (HS.out.blk 0 rfl).cell 1 (.int .i64 (lz x.num 1)) rfl
  have c2 := (HS.out.blk 0 rfl).cell 2 (.int .i64 (lz x.num 2)) rfl
  have c3 := (HS.out.blk 0 rfl).cell 3 (.slice q.p.a q.p.n q.p.c) rfl
  clear eA
  go_enter Tryz.func101, Tryz.ntmps101
  go_wp2_with fail
  refine (may_sc (lz x.num 0) (lz x.num 1) (lz x.num 2) q.p.a q.p.n q.p.c (lz x.prog) _ (by have := (hI.out _ HS.out.below).2.1.2.1.1; omega) (hI.out _ HS.out.below).2.1.2.2).mono ?_
  rintro e w1 ⟨rfl, hb⟩
  replace HS : Hid (St w w1 [blkI w.heap.size (sessL (lz x.num) (.slice q.p.a q.p.n q.p.c) (.slice q.r.a q.r.n q.r.c) (.slice q.t.a q.t.n q.t.c))]) := hide (HS.out.on hb)
  clear hb c0 c1 c2 c3
  cases b0 : startMay (lz x.num 0) (lz x.num 1) (lz x.num 2) q.p.n (lz x.prog)
  · go_wp2
    go_ret
    exact ⟨ret_bool (by rw [HP.out, b0]; rfl), HS.out.below⟩
  replace b0 := hide b0
  have c6 := (HS.out.blk 0 rfl).cell 6 (.int .i64 (lz x.num 5)) rfl
  have c7 := (HS.out.blk 0 rfl).cell 7 (.int .i64 (lz x.num 6)) rfl
  have c8 := (HS.out.blk 0 rfl).cell 8 (.int .i64 (lz x.num 7)) rfl
  have c9 := (HS.out.blk 0 rfl).cell 9 (.int .i64 (lz x.num 8)) rfl
  go_wp2_with fail
  refine (registersMay_any (regsI (lz x.num)) _).mono ?_
  rintro e w2 ⟨rfl, hb⟩
  replace HS := hide (HS.out.on hb)
  clear hb
  clear c6 c7 c8 c9
  cases b1 : allUp (regsI (lz x.num)) 255 4
  · go_wp2
    go_ret
    exact ⟨ret_bool (by rw [HP.out, b0.out, b1]; rfl), HS.out.below⟩
  replace b1 := hide b1
  have c10 := (HS.out.blk 0 rfl).cell 10 (.slice q.r.a q.r.n q.r.c) rfl
  go_wp2_with fail
  refine (may_rc q.r.a q.r.n q.r.c (lz x.reads) _ (by have := (hI.out _ HS.out.below).2.2.1.2.1.1; omega) (hI.out _ HS.out.below).2.2.1.2.1.2.1 (hI.out _ HS.out.below).2.2.1.2.2).mono ?_
  rintro e w3 ⟨rfl, hb⟩
  replace HS := hide (HS.out.on hb)
  clear hb
  clear c10
  cases b2 : readsMay q.r.n (lz x.reads)
  · go_wp2
    go_ret
    exact ⟨ret_bool (by rw [HP.out, b0.out, b1.out, b2]; rfl), HS.out.below⟩
  replace b2 := hide b2
  have c11 := (HS.out.blk 0 rfl).cell 11 (.slice q.t.a q.t.n q.t.c) rfl
  go_wp2_with fail
  refine (may_wc q.t.a q.t.n q.t.c (lz x.writes) _ (by have := (hI.out _ HS.out.below).2.2.2.2.1.1; omega) (hI.out _ HS.out.below).2.2.2.2.1.2.1 (hI.out _ HS.out.below).2.2.2.2.2).mono ?_
  rintro e w4 ⟨rfl, hb⟩
  replace HS := hide (HS.out.on hb)
  clear hb
  clear c11
  cases b3 : writesMay q.t.n (lz x.writes)
  · go_wp2
    go_ret
    exact ⟨ret_bool (by rw [HP.out, b0.out, b1.out, b2.out, b3]; rfl), HS.out.below⟩
  replace b3 := hide b3
  have c4 := (HS.out.blk 0 rfl).cell 4 (.int .i64 (lz x.num 3)) rfl
  go_wp2_with fail
  refine (askUpTo_any _ _ _).mono ?_
  rintro e w' ⟨rfl, rfl⟩
  clear c4
  cases b4 : upToV (lz x.num 3) 6
  · go_wp2
    go_ret
    exact ⟨ret_bool (by rw [HP.out, b0.out, b1.out, b2.out, b3.out, b4]; rfl), HS.out.below⟩
  replace b4 := hide b4
  have c5 := (HS.out.blk 0 rfl).cell 5 (.int .i64 (lz x.num 4)) rfl
  have c3 := (HS.out.blk 0 rfl).cell 3 (.slice q.p.a q.p.n q.p.c) rfl
  go_wp2_with fail
  refine (askUpTo_any _ _ _).mono ?_
  rintro e w' ⟨rfl, rfl⟩
  clear c5 c3
  cases b5 : upToV (lz x.num 4) q.p.n
  · go_wp2
    go_ret
    exact ⟨ret_bool (by rw [HP.out, b0.out, b1.out, b2.out, b3.out, b4.out, b5]; rfl), HS.out.below⟩
  replace b5 := hide b5
  have c12 := (HS.out.blk 0 rfl).cell 12 (.int .i64 (lz x.num 9)) rfl
  have c11 := (HS.out.blk 0 rfl).cell 11 (.slice q.t.a q.t.n q.t.c) rfl
  go_wp2_with fail
  refine (askUpTo_any _ _ _).mono ?_
  rintro e w' ⟨rfl, rfl⟩
  clear c12 c11
  cases b6 : upToV (lz x.num 9) q.t.n
  · go_wp2
    go_ret
    exact ⟨ret_bool (by rw [HP.out, b0.out, b1.out, b2.out, b3.out, b4.out, b5.out, b6]; rfl), HS.out.below⟩
  replace b6 := hide b6
  have c13 := (HS.out.blk 0 rfl).cell 13 (.int .i64 (lz x.num 10)) rfl
  go_wp2_with fail
  refine (askUpTo_any _ _ _).mono ?_
  rintro e w' ⟨rfl, rfl⟩
  clear c13
  cases b7 : upToV (lz x.num 10) 65535
  · go_wp2
    go_ret
    exact ⟨ret_bool (by rw [HP.out, b0.out, b1.out, b2.out, b3.out, b4.out, b5.out, b6.out, b7]; rfl), HS.out.below⟩
  replace b7 := hide b7
  have c14 := (HS.out.blk 0 rfl).cell 14 (.int .i64 (lz x.num 11)) rfl
  go_wp2_with fail
  refine (askUpTo_any _ _ _).mono ?_
  rintro e w' ⟨rfl, rfl⟩
  clear c14
  cases b8 : upToV (lz x.num 11) 65535
  · go_wp2
    go_ret
    exact ⟨ret_bool (by rw [HP.out, b0.out, b1.out, b2.out, b3.out, b4.out, b5.out, b6.out, b7.out, b8]; rfl), HS.out.below⟩
  replace b8 := hide b8
  have c15 := (HS.out.blk 0 rfl).cell 15 (.int .i64 (lz x.num 12)) rfl
  go_wp2_with fail
  refine (askUpTo_any _ _ _).mono ?_
  rintro e w' ⟨rfl, rfl⟩
  clear c15
  cases b9 : upToV (lz x.num 12) 5
  · go_wp2
    go_ret
    exact ⟨ret_bool (by rw [HP.out, b0.out, b1.out, b2.out, b3.out, b4.out, b5.out, b6.out, b7.out, b8.out, b9]; rfl), HS.out.below⟩
  replace b9 := hide b9
  have c16 := (HS.out.blk 0 rfl).cell 16 (.int .i64 (lz x.num 13)) rfl
  go_wp2_with fail
  refine (askUpTo_any _ _ _).mono ?_
  rintro e w' ⟨rfl, rfl⟩
  clear c16
  go_wp2
  go_ret
  exact ⟨ret_bool (by rw [HP.out, b0.out, b1.out, b2.out, b3.out, b4.out, b5.out, b6.out, b7.out, b8.out, b9.out]; simp), HS.out.below⟩
end Go.Proofs.YtnjognmnbpcaaaaGreat
