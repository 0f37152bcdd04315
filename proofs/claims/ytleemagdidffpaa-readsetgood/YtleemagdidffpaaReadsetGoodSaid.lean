/-
  The law ReadsetGood, if package readset's functions keep their statements.
-/
import Derived.Test.YtleemagdidffpaaReadsAwake
namespace Go.Proofs.Ytleemagdidffpaa
open Go.RowKit
set_option linter.unusedSimpArgs false
set_option linter.unusedVariables false

/-- One more read: good just if all are. -/
theorem good_more {s : Nat → Sl} {y : Nat → Nat → Int} {n : Nat} {z : Nat → Int} {l i v d : Int} (h : goodOk s y n z d = true) (hw : withOk n z l i v = true) (h1 : goodOk s y 1 (oneR l i v) d = true) (hn : noneTo z l i n = true) :
    goodOk s y (n + 1) (putR z n l i v) d = true ∧ allTo (goodP y (putR z n l i v) d) (n + 1) = (allTo (goodP y z d) n && allTo (goodP y (oneR l i v) d) 1) := by
  obtain ⟨hf, hd⟩ := goodOk_get h
  obtain ⟨ha, hr, ht⟩ := fitR_get hf
  obtain ⟨_, _, ht1⟩ := fitR_get (goodOk_get h1).1
  obtain ⟨e0, e1, e2⟩ := putR_new z n l i v
  have old : ∀ j, j < n * 3 → putR z n l i v j = z j := fun j hj => putR_old hj
  simp only [withOk, Bool.and_eq_true, Bool.or_eq_true, Bool.not_eq_true', decide_eq_true_eq] at hw
  have h16 : n + 1 ≤ 16 := by
    rcases hw.2 with e | e
    · rw [hn] at e; cases e
    · exact e
  refine ⟨goodOk_mk (fitR_mk ha (readsMay_more hr hw.1.2 hn h16) ?_) hd, ?_⟩
  · rw [allTo, allTo_congr fun j hj => thereP_cells old hj, ht]
    unfold thereP
    rw [e0, e1]
    exact allTo_get ht1 0 (by omega)
  · rw [allTo, allTo_congr fun j hj => goodP_cells old hj]
    congr 1
    show _ = (true && goodP y (oneR l i v) d 0)
    rw [Bool.true_and]
    unfold goodP sameP freeP
    rw [e0, e1, e2]
    rfl

set_option maxRecDepth 100000 in
set_option maxHeartbeats 4000000 in
theorem readsetGood_said (hM : MayRC) (hW : WithRC) (hG : GoodRC) (hC : ChgRC) (a : Option Addr) (n c : Nat) (z : Nat → Int) (l i v : Int) (s : Nat → Sl) (y : Nat → Nat → Int) (d : Int) (w : World) (hn : n * 24 ≤ 140737488351232) (hc : n ≤ c) (ha : a = none → n = 0 ∧ c = 0) (h : Row w a (n * 3) fun i => .int .i64 (z i)) (hf : Fit s) (hA : Arn w s y) :
    Calls Try.prog 4 #[.slice a n c, wordA l i v, arenaA s, .int .i64 d] w fun e w' => e = .returned (.bool true) ∧ Below w.heap.size w w' := by
  have C0 := hide fun w => awake9_any hM hW hG hC w
  have CG := hide fun w hA h => hG s y a n c z d w hf hA (by omega) hc h
  have CC := hide fun w hA h => hC s y a n c z w hf hA (by omega) hc h
  have CW := hide fun w h => (hW a n c z l i v w (by omega) hc ha h).mono fun _ _ h => with_any h
  have C1 := hide fun w b hA h => hG s y (some ⟨b, 0, none⟩) 1 1 (oneR l i v) d w hf hA (by omega) (by omega) h
  have wl := withN_le n z l i v
  have CX := hide fun w a' c' hc' hA h => hG s y a' (withN n z l i v) c' (putR z n l i v) d w hf hA (by omega) hc' h
  have b0 : Below w.heap.size w ((w.alloc (.cells #[.int .i64 l, .int .i64 i, .int .i64 v] 24)).alloc (.cells (arenaL s).toArray 26)) := by go_grown
  have P := (blk_new w [.int .i64 l, .int .i64 i, .int .i64 v] 24).alloc (.cells (arenaL s).toArray 26)
  have B := blk_new (w.alloc (.cells #[.int .i64 l, .int .i64 i, .int .i64 v] 24)) (arenaL s) 26
  rw [World.size_alloc] at B
  have HR := hide (h.below b0 (Nat.le_refl _))
  have HA := hide (hA.below b0 (Nat.le_refl _))
  clear h hA
  unfold arenaA wordA at *
  cases hok : goodOk s y n z d
  · simp only [(good_no hok).1, (good_no hok).2] at CG
    clear hM hW hG hC hok C1 CX CW
    generalize chgV s y n z = q0, chgE s y n z = q1 at *
    go_enter Try.func4, Try.ntmps4
    go_wp2_with fail
    refine (C0.out _).mono ?_
    rintro e w1 ⟨rfl, hb⟩
    have b1 := Below.on b0 hb
    replace HR := hide (HR.out.below hb (Nat.le_refl _))
    replace HA := hide (HA.out.below hb (Nat.le_refl _))
    replace B := B.on hb
    clear hb b0 C0 P
    obtain ⟨⟨c0, c1, c2, c3⟩, cf0, cf1, cf2, cf3⟩ := B.four
    go_wp2_with fail
    refine (CG.out _ HA.out HR.out).mono ?_
    rintro e w2 ⟨rfl, hb⟩
    have b2 := Below.on b1 hb
    replace HR := hide (HR.out.below hb (Nat.le_refl _))
    replace HA := hide (HA.out.below hb (Nat.le_refl _))
    replace B := B.on hb
    clear hb b1 CG c0 c1 c2 c3 cf0 cf1 cf2 cf3
    obtain ⟨⟨c0, c1, c2, c3⟩, cf0, cf1, cf2, cf3⟩ := B.four
    go_wp2_with fail
    refine (CC.out _ HA.out HR.out).mono ?_
    rintro e w3 ⟨rfl, hb⟩
    have b3 := Below.on b2 hb
    clear hb b2 CC HR HA B c0 c1 c2 c3 cf0 cf1 cf2 cf3
    go_wp2_with (go_at_call 18; refine (num_any _ _).mono ?_; rintro e w' ⟨rfl, rfl⟩)
    go_ret
    exact ⟨rfl, b3⟩
  · simp only [(good_yes hok).1, (good_yes hok).2] at CG
    simp only [(chg_yes (goodOk_get hok).1).1, (chg_yes (goodOk_get hok).1).2] at CC
    have HGS : allTo (goodP y z d) n = true → allTo (sameP y z) n = true := good_same
    have HGS' : (allTo (goodP y z d) n && !allTo (sameP y z) n) = false := by
      cases e : allTo (goodP y z d) n
      · rfl
      · rw [HGS e]; rfl
    have HX : Hid (withE n z l i v = 0 → goodE s y 1 (oneR l i v) d = 0 → ¬ withN n z l i v = n → goodE s y (withN n z l i v) (putR z n l i v) d = 0 ∧ goodV s y (withN n z l i v) (putR z n l i v) d = (allTo (goodP y z d) n && goodV s y 1 (oneR l i v) d)) := by
      intro e1 e2 e3
      have hw : withOk n z l i v = true := by
        cases e : withOk n z l i v
        · unfold withE at e1; rw [e] at e1; cases e1
        · rfl
      have h1 : goodOk s y 1 (oneR l i v) d = true := by
        cases e : goodOk s y 1 (oneR l i v) d
        · unfold goodE at e2; rw [e] at e2; cases e2
        · rfl
      have hnn : noneTo z l i n = true := by
        cases e : noneTo z l i n
        · unfold withN at e3; rw [hw, e] at e3; exact absurd rfl e3
        · rfl
      have eN : withN n z l i v = n + 1 := by unfold withN; rw [hw, hnn]; rfl
      obtain ⟨m1, m2⟩ := good_more hok hw h1 hnn
      rw [eN, (good_yes m1).1, (good_yes m1).2, (good_yes h1).1, m2]
      exact ⟨rfl, rfl⟩
    clear hM hW hG hC hok HGS
    generalize allTo (goodP y z d) n = g1, allTo (sameP y z) n = q1 at *
    generalize withN n z l i v = N, withE n z l i v = E at *
    generalize goodV s y N (putR z n l i v) d = gv, goodE s y N (putR z n l i v) d = ge at *
    generalize goodV s y 1 (oneR l i v) d = ov, goodE s y 1 (oneR l i v) d = oe at *
    generalize putR z n l i v = z' at *
    go_enter Try.func4, Try.ntmps4
    go_wp2_with fail
    refine (C0.out _).mono ?_
    rintro e w1 ⟨rfl, hb⟩
    have b1 := Below.on b0 hb
    replace HR := hide (HR.out.below hb (Nat.le_refl _))
    replace HA := hide (HA.out.below hb (Nat.le_refl _))
    replace B := B.on hb
    replace P := P.on hb
    clear hb b0 C0
    obtain ⟨⟨c0, c1, c2, c3⟩, cf0, cf1, cf2, cf3⟩ := B.four
    go_wp2_with fail
    refine (CG.out _ HA.out HR.out).mono ?_
    rintro e w2 ⟨rfl, hb⟩
    have b2 := Below.on b1 hb
    replace HR := hide (HR.out.below hb (Nat.le_refl _))
    replace HA := hide (HA.out.below hb (Nat.le_refl _))
    replace B := B.on hb
    replace P := P.on hb
    clear hb b1 CG c0 c1 c2 c3 cf0 cf1 cf2 cf3
    obtain ⟨⟨c0, c1, c2, c3⟩, cf0, cf1, cf2, cf3⟩ := B.four
    go_wp2_with fail
    refine (CC.out _ HA.out HR.out).mono ?_
    rintro e w3 ⟨rfl, hb⟩
    have b3 := Below.on b2 hb
    replace HR := hide (HR.out.below hb (Nat.le_refl _))
    replace HA := hide (HA.out.below hb (Nat.le_refl _))
    replace B := B.on hb
    replace P := P.on hb
    clear hb b2 CC c0 c1 c2 c3 cf0 cf1 cf2 cf3
    obtain ⟨⟨e0, e1, e2⟩, ef0, ef1, ef2⟩ := P.three
    go_wp2_with (go_at_call 18; refine (num_any _ _).mono ?_; rintro e w' ⟨rfl, rfl⟩)
    refine (CW.out _ HR.out).mono ?_
    rintro e w4 ⟨a', c', rfl, hc', _, R', _, hb⟩
    have b4 := Below.on b3 hb
    have HR' := hide R'
    have HC' := hide hc'
    replace HA := hide (HA.out.below hb (Nat.le_refl _))
    replace B := B.on hb
    replace P := P.on hb
    clear hb b3 CW e0 e1 e2 ef0 ef1 ef2 R' HR hc'
    obtain ⟨⟨c0, c1, c2, c3⟩, cf0, cf1, cf2, cf3⟩ := B.four
    obtain ⟨⟨e0, e1, e2⟩, ef0, ef1, ef2⟩ := P.three
    go_wp2_with fail
    have bb := (Below.refl w4.heap.size w4).alloc (Nat.le_refl _) (.cells #[.int .i64 l, .int .i64 i, .int .i64 v] 24)
    refine (C1.out _ _ (HA.out.below bb (Nat.le_refl _)) (blk_new w4 [.int .i64 l, .int .i64 i, .int .i64 v] 24).read).mono ?_
    rintro e w5 ⟨rfl, hb⟩
    replace bb := Below.on bb hb
    have b5 := Below.on b4 bb
    replace HR' := hide (HR'.out.below bb (Nat.le_refl _))
    replace HA := hide (HA.out.below bb (Nat.le_refl _))
    replace B := B.on bb
    clear hb bb b4 C1 e0 e1 e2 ef0 ef1 ef2 c0 c1 c2 c3 cf0 cf1 cf2 cf3 P
    obtain ⟨⟨c0, c1, c2, c3⟩, cf0, cf1, cf2, cf3⟩ := B.four
    go_wp2_with fail
    refine (CX.out _ _ _ HC'.out HA.out HR'.out).mono ?_
    rintro e w6 ⟨rfl, hb⟩
    have b6 := Below.on b5 hb
    clear hb b5 CX c0 c1 c2 c3 cf0 cf1 cf2 cf3 B HA HR' HC'
    by_cases hE : E = 0
    · by_cases hO : oe = 0
      · by_cases hN : N = n
        · subst hE hO hN
          clear HX
          cases g1 <;> cases q1
          case true.false => cases HGS'
          all_goals
            clear HGS'
            go_wp2_with (go_at_call 18; refine (num_any _ _).mono ?_; rintro e w' ⟨rfl, rfl⟩)
            go_ret
            exact ⟨rfl, b6⟩
        · obtain ⟨x1, x2⟩ := HX.out hE hO hN
          subst hE hO x1 x2
          have i1 : ¬ (N : Int) = (n : Int) := by omega
          have i2 : ((N : Int) == (n : Int)) = false := beq_eq_false_iff_ne.2 i1
          clear HX
          cases g1 <;> cases q1
          case true.false => cases HGS'
          all_goals
            clear HGS'
            cases ov
            all_goals
              go_wp2_with (go_at_call 18; refine (num_any _ _).mono ?_; rintro e w' ⟨rfl, rfl⟩)
              go_ret
              exact ⟨rfl, b6⟩
      · subst hE
        have i1 : (oe != 0) = true := by simpa using hO
        clear HX
        cases g1 <;> cases q1
        case true.false => cases HGS'
        all_goals
          clear HGS'
          go_wp2_with (go_at_call 18; refine (num_any _ _).mono ?_; rintro e w' ⟨rfl, rfl⟩)
          go_ret
          exact ⟨rfl, b6⟩
    · have i1 : (E != 0) = true := by simpa using hE
      clear HX
      cases g1 <;> cases q1
      case true.false => cases HGS'
      all_goals
        clear HGS'
        go_wp2_with (go_at_call 18; refine (num_any _ _).mono ?_; rintro e w' ⟨rfl, rfl⟩)
        go_ret
        exact ⟨rfl, b6⟩

end Go.Proofs.Ytleemagdidffpaa
