/-
  The law ReadsetFirst, if package readset's functions keep their statements.
-/
import Derived.Test.YtleemagdidffpaaFirstPure
namespace Go.Proofs.Ytleemagdidffpaa
open Go.RowKit
set_option linter.unusedSimpArgs false
set_option linter.unusedVariables false

/-- A list that was made behind a block, or nothing. -/
def Mine (B : Nat) (w : World) (a : Option Addr) (n c : Nat) (z : Nat → Int) : Prop :=
  n ≤ c ∧ (a = none → n = 0 ∧ c = 0) ∧ (0 < n → ∃ b, a = some ⟨b, 0, none⟩ ∧ B ≤ b ∧ Own w b (n * 3) (intF z))
theorem Mine.row {B : Nat} {w : World} {a : Option Addr} {n c : Nat} {z : Nat → Int} (h : Mine B w a n c z) : Row w a (n * 3) fun i => .int .i64 (z i) := by
  by_cases hp : 0 < n
  · obtain ⟨b, e, _, ho⟩ := h.2.2 hp
    rw [e]
    exact ho.row
  · rw [show n = 0 by omega, Nat.zero_mul]
    exact row_zero _ _ _

set_option maxRecDepth 10000 in
set_option maxHeartbeats 4000000 in
theorem readsetFirst_said (hM : MayRC) (hW : WithRC) (hG : GoodRC) (hC : ChgRC) (a0 : Option Addr) (n0 c0 : Nat) (z0 : Nat → Int) (w : World) (l0 : n0 * 8 ≤ 140737488351232) (r0 : Row w a0 n0 fun i => .int .i64 (z0 i)) :
    Calls Try.prog 6 #[.slice a0 n0 c0] w fun e w' => e = .returned (.bool true) ∧ Below w.heap.size w w' := by
  obtain ⟨i0, hi, hz0, hz1, hz2⟩ := info_parts Try.infoRead
  have C0 := hide fun w => awake9_any hM hW hG hC w
  go_enter Try.func6, Try.ntmps6
  go_wp2_with fail
  refine (C0.out _).mono ?_
  rintro e w1 ⟨rfl, b1⟩
  have s1 := b1.size
  clear C0
  go_wp2
  go_loopw [3, 4, 6] (fun rs want i wr => ∃ (j n : Nat) (z : Nat → Int) (f : Nat → Bool) (ra va : Option Addr) (rc vc : Nat), j ≤ n0 ∧ j ≤ 40 ∧ rs = .slice ra n rc ∧ want = .slice va n vc ∧ i = .int .i64 j ∧ Sixteens n z f ∧ Mine (w1.heap.size + 1) wr ra n rc z ∧ Hid (wr.ownsRow (w1.heap.size + 1) 24 3 (.slice va n vc) n (rowL (intF z) (n * 3))) ∧ Own wr w1.heap.size 16 (boolF f) ∧ w1.heap.size + 1 ≤ wr.heap.size ∧ Below w.heap.size w wr) (fun _ _ i _ => 40 - (intOf i).toNat)
  case atStart =>
    refine ⟨0, 0, fun _ => 0, fun _ => false, none, none, 0, 0, Nat.zero_le _, Nat.zero_le _, rfl, rfl, rfl, Sixteens.none _, ⟨Nat.le_refl _, fun _ => ⟨rfl, rfl⟩, fun h => absurd h (Nat.lt_irrefl 0)⟩, World.ownsRow_nil _ _ _ _, ?_, by simp only [World.size_alloc]; omega, b1.alloc s1 _⟩
    have h16 := blk_new w1 (List.replicate 16 (.bool false)) 55
    exact ⟨_, h16, fun i hi => by rw [List.getElem?_replicate, if_pos hi]; rfl⟩
  case round =>
    obtain ⟨j, n, z, f, ra, va, rc, vc, hj, hj4, rfl, rfl, rfl, hS, hR, HO, hF, hsz, hb⟩ := hrel
    have HS := hide hS
    have HR := hide hR
    clear hS hR
    by_cases hlt : j < n0
    · by_cases h40 : j < 40
      · obtain ⟨b, off, rfl, _, hc⟩ := r0.below hb (Nat.le_refl _) j hlt
        have i1 : (j : Int) < (n0 : Int) := by omega
        have i2 : (j : Int) < 40 := by omega
        obtain ⟨k, hk, hkm⟩ : ∃ k : Nat, k < 16 ∧ bits .and .i64 (z0 j) 15 = k := ⟨(z0 j % 16).toNat, by omega, by rw [mask15]; omega⟩
        obtain ⟨u, hu, hum⟩ : ∃ u : Int, upToV u 65535 = true ∧ bits .and .i64 (z0 j / 16) 255 = u := ⟨z0 j / 16 % 256, upToV_of (by omega) (by omega), mask255 _⟩
        have n16 := (readsMay_get HS.out.may).2.2
        obtain ⟨ok1, ok2⟩ := HS.out.ok hk hu
        have eE : withE n z ((k / 4 : Nat) : Int) ((k % 4 : Nat) : Int) u = 0 := by unfold withE; rw [ok1]; rfl
        have HOld := hide (fun e => HS.out.old hk hu e)
        have HNew := hide (fun e => HS.out.new hk hu e)
        have CW := hide fun w h => (hW ra n rc z ((k / 4 : Nat) : Int) ((k % 4 : Nat) : Int) u w (by omega) HR.out.1 HR.out.2.1 h).mono fun _ _ h => with_any h
        rw [eE] at CW
        have q4 := quarter k
        have m4 := rest4 k
        clear ok1 ok2 eE hu
        generalize hg : k / 4 = g at *
        generalize hi' : k % 4 = i at *
        clear hg hi'
        have s0 := hb.size
        go_wp2_with fail
        have bb : Below wr.heap.size wr (wr.alloc (.cells #[.int .i64 (g : Int), .int .i64 (i : Int), .int .i64 u] 24)) := by go_grown
        have P := blk_new wr [.int .i64 (g : Int), .int .i64 (i : Int), .int .i64 u] 24
        refine (CW.out _ (HR.out.row.below bb (Nat.le_refl _))).mono ?_
        rintro e w3 ⟨a', c', rfl, hc', ha', _, ho', hb3⟩
        have sw := bb.size
        have bb3 := Below.on bb hb3
        have P3 := P.on hb3
        have HO3 := hide (owns_on HO.out bb3)
        have hF3 := hF.on bb3
        have b3 := Below.on hb bb3
        have s3 := bb3.size
        have HL := hide (owns_lt HO.out)
        have c5 := hF3.cell (i := k) hk
        have f5 := hF3.frozen k
        have i3 : (k : Int) < 16 := by omega
        have z5 := hF3.lt
        have z8 := P3.lt
        obtain ⟨⟨p0, p1, p2⟩, pf0, pf1, pf2⟩ := P3.three
        have HA' := hide (And.intro hc' (And.intro ha' ho'))
        have hw3 : w1.heap.size + 1 ≤ w3.heap.size := by omega
        have sz1 : (wr.alloc (.cells #[.int .i64 (g : Int), .int .i64 (i : Int), .int .i64 u] 24)).heap.size = wr.heap.size + 1 := World.size_alloc _ _
        rw [sz1] at HA'
        clear CW hc' ha' ho' hb3 bb bb3 P HO hF hb HR hkm hum q4 m4 hc sz1 r0
        unfold boolF at c5
        cases e : f k
        · rw [e] at c5
          obtain ⟨eN, hS', hn'⟩ := HNew.out e
          rw [eN] at HA' ⊢
          have HS' := hide hS'
          have HO4 := hide (HO3.out.alloc (.cells #[.int .i64 (g : Int), .int .i64 (i : Int), .int .i64 u] 24))
          have HNW := hide (World.news_of_block (cs := #[.int .i64 (g : Int), .int .i64 (i : Int), .int .i64 u]) (t := 24) (fr := (0, 0)) (heap_alloc_new w3 (.cells #[.int .i64 (g : Int), .int .i64 (i : Int), .int .i64 u] 24)))
          clear eN hS' HNew HOld HO3 e HS
          go_wp2_with (at_builtin; refine wpList_append_own _ rfl (.tmp 49) (.tmp 51) 22 rfl (w1.heap.size + 1) 24 i0 (.agg #[.int .i64 0, .int .i64 0, .int .i64 0]) 3 24 Try.underlying22 hi hz0 hz1 hz2 rfl (by decide) _ _ _ rfl (unhide HO4) ⟨w3.heap.size, 0, none⟩ 1 1 [.int .i64 (g : Int), .int .i64 (i : Int), .int .i64 u] rfl rfl (unhide HNW) ?_ ?_ ?_ ?_ ?_)
          · simp [Value.oneCell']
          · unfold maxLen; omega
          · omega
          · first | omega | (simp only [World.size_alloc]; omega)
          · intro v' w4 hown1 hgrow _
            have b4 : Below w.heap.size w w4 := (b3.alloc b3.size _).grown hgrow (by simp only [World.size_alloc]; omega) (fun k hk => by have := HL.out k hk; omega)
            rw [putR_row] at hown1
            have hF4 := (hF3.alloc (.cells #[.int .i64 (g : Int), .int .i64 (i : Int), .int .i64 u] 24)).grown hgrow (fun e => by have := HL.out _ e.symm; omega)
            have HM4 : Hid (∃ b, a' = some ⟨b, 0, none⟩ ∧ w1.heap.size + 1 ≤ b ∧ Own w4 b ((n + 1) * 3) (intF (putR z n (g : Int) (i : Int) u))) := by
              obtain ⟨b', e1, e2, e3, e4⟩ := HA'.out.2.2 (by omega)
              exact ⟨b', e1, by omega, (e4.alloc _).grown hgrow (fun e => by have := HL.out _ e.symm; omega)⟩
            obtain ⟨ya, yc, rfl, _⟩ := slice_of_owns hown1
            have HO4' := hide hown1
            have s4 := hgrow.size
            rw [World.size_alloc] at s4
            clear hown1 hgrow HO4 HNW HL hF3 b3 c5 f5 z5 z8 p0 p1 p2 pf0 pf1 pf2 P3
            have c5 := hF4.cell (i := k) hk
            have f5 := hF4.frozen k
            have z5 := hF4.lt
            unfold boolF at c5
            go_upto_region 14 with (fail)
            have hF5 := hF4.setBool k
            have HO5 := hide (owns_far HO4'.out (a := ⟨w1.heap.size, k, none⟩) (by simp) (.bool true))
            have HM : Hid (Mine (w1.heap.size + 1) (w4.setCell ⟨w1.heap.size, k, none⟩ (.bool true)) a' (n + 1) c' (putR z n (g : Int) (i : Int) u)) := by
              obtain ⟨b', e1, e2, e3⟩ := HM4.out
              exact ⟨HA'.out.1, HA'.out.2.1, fun _ => ⟨b', e1, e2, e3.far _ (by simp; omega)⟩⟩
            have b5 : Below w.heap.size w (w4.setCell ⟨w1.heap.size, k, none⟩ (.bool true)) := b4.setCell (by simp; omega) _
            have hsz5 : w1.heap.size + 1 ≤ (w4.setCell ⟨w1.heap.size, k, none⟩ (.bool true)).heap.size := by rw [World.size_setCell]; omega
            have HV := hide (slice_of_owns HO5.out)
            clear hF4 HO4' HM4 b4 c5 f5 z5 HA'
            generalize w4.setCell ⟨w1.heap.size, k, none⟩ (.bool true) = W at *
            replace HV : Hid (Row W ya ((n + 1) * 3) fun j => .int .i64 (putR z n (g : Int) (i : Int) u j)) := by
              obtain ⟨_, _, e, _, _, hr, _⟩ := HV.out
              simp only [Value.slice.injEq, true_and] at e
              rw [e.1]
              exact hr
            have CS := hide (sameReads_any a' ya (n + 1) c' (n + 1) yc (putR z n (g : Int) (i : Int) u) (putR z n (g : Int) (i : Int) u) W (by omega) HM.out.row HV.out)
            rw [eqTo_mk fun _ _ => rfl, decide_eq_true rfl] at CS
            clear HV
            go_wp2_with (first | (go_at_call 18; refine (num_any _ _).mono ?_; rintro e w' ⟨rfl, rfl⟩) | (go_at_call 17; refine CS.out.mono ?_; rintro e w' ⟨rfl, q, rfl⟩))
            go_roundw
            case rel =>
              first
                | exact ⟨j + 1, (n + 1), _, _, a', ya, c', yc, by omega, by omega, rfl, rfl, by go_num, HS'.out, HM.out, owns_drawn HO5.out _, hF5, hsz5, Below.drawn b5 _⟩
                | (repeat apply Exists.intro
                   exact ⟨⟨j + 1, (n + 1), _, _, a', ya, c', yc, by omega, by omega, rfl, rfl, by go_num, HS'.out, HM.out, owns_drawn HO5.out _, hF5, hsz5, Below.drawn b5 _⟩, rfl⟩)
            case measure => simp [intOf]; omega
        · rw [e] at c5
          obtain ⟨eN, hS'⟩ := HOld.out e
          rw [eN] at HA' ⊢
          have HS' := hide hS'
          have hrow : rowL (intF z) (n * 3) = rowL (intF (putR z n (g : Int) (i : Int) u)) (n * 3) := rowL_congr fun j hj => by unfold intF; rw [putR_old hj]
          rw [hrow] at HO3
          clear eN hS' HNew HOld e HS hrow HL p0 p1 p2 pf0 pf1 pf2
          go_upto_region 14 with (fail)
          have hF5 := hF3.setBool k
          have HO5 := hide (owns_far HO3.out (a := ⟨w1.heap.size, k, none⟩) (by simp) (.bool true))
          have HM : Hid (Mine (w1.heap.size + 1) (w3.setCell ⟨w1.heap.size, k, none⟩ (.bool true)) a' n c' (putR z n (g : Int) (i : Int) u)) := by
            refine ⟨HA'.out.1, HA'.out.2.1, fun hp => ?_⟩
            obtain ⟨b', e1, e2, e3, e4⟩ := HA'.out.2.2 hp
            exact ⟨b', e1, by omega, e4.far _ (by simp; omega)⟩
          have b5 : Below w.heap.size w (w3.setCell ⟨w1.heap.size, k, none⟩ (.bool true)) := b3.setCell (by simp; omega) _
          have hsz5 : w1.heap.size + 1 ≤ (w3.setCell ⟨w1.heap.size, k, none⟩ (.bool true)).heap.size := by rw [World.size_setCell]; omega
          have HV := hide (slice_of_owns HO5.out)
          clear hF3 HO3 b3 c5 f5 z5 HA' P3 z8
          generalize w3.setCell ⟨w1.heap.size, k, none⟩ (.bool true) = W at *
          replace HV : Hid (Row W va (n * 3) fun j => .int .i64 (putR z n (g : Int) (i : Int) u j)) := by
            obtain ⟨_, _, e, _, _, hr, _⟩ := HV.out
            simp only [Value.slice.injEq, true_and] at e
            rw [e.1]
            exact hr
          have CS := hide (sameReads_any a' va n c' n vc (putR z n (g : Int) (i : Int) u) (putR z n (g : Int) (i : Int) u) W (by omega) HM.out.row HV.out)
          rw [eqTo_mk fun _ _ => rfl, decide_eq_true rfl] at CS
          clear HV
          go_wp2_with (first | (go_at_call 18; refine (num_any _ _).mono ?_; rintro e w' ⟨rfl, rfl⟩) | (go_at_call 17; refine CS.out.mono ?_; rintro e w' ⟨rfl, q, rfl⟩))
          go_roundw
          case rel =>
            first
              | exact ⟨j + 1, n, _, _, a', va, c', vc, by omega, by omega, rfl, rfl, by go_num, HS'.out, HM.out, owns_drawn HO5.out _, hF5, hsz5, Below.drawn b5 _⟩
              | (repeat apply Exists.intro
                 exact ⟨⟨j + 1, n, _, _, a', va, c', vc, by omega, by omega, rfl, rfl, by go_num, HS'.out, HM.out, owns_drawn HO5.out _, hF5, hsz5, Below.drawn b5 _⟩, rfl⟩)
          case measure => simp [intOf]; omega
      · have i2 : ¬ (j : Int) < 40 := by omega
        go_wp2_with fail
        refine (hM ra n rc z _ (by have := (readsMay_get HS.out.may).2.2; omega) HR.out.1 HR.out.row).mono ?_
        rintro e w4 ⟨rfl, hb4⟩
        rw [HS.out.may]
        have b4 := Below.on hb hb4
        go_wp2
        go_ret
        exact ⟨rfl, b4⟩
    · have i2 : ¬ (j : Int) < (n0 : Int) := by omega
      go_wp2_with fail
      refine (hM ra n rc z _ (by have := (readsMay_get HS.out.may).2.2; omega) HR.out.1 HR.out.row).mono ?_
      rintro e w4 ⟨rfl, hb4⟩
      rw [HS.out.may]
      have b4 := Below.on hb hb4
      go_wp2
      go_ret
      exact ⟨rfl, b4⟩

end Go.Proofs.Ytleemagdidffpaa
