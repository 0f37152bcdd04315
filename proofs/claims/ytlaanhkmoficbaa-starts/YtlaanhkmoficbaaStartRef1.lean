/-
  The document's answers on Starts and on a session as it begins.
-/
import Derived.Test.YtlaanhkmoficbaaStartStat
import Derived.Test.YtlaanhkmoficbaaStoreAll
import Derived.Test.YtlaanhkmoficbaaRefSmall
import Derived.Deep.RegionHeld3
import Derived.Deep.MidRow
namespace Go.Proofs.Ytlaanhkmoficbaa
open Go.RowKit
set_option linter.unusedSimpArgs false
set_option linter.unusedVariables false

def underV (a b : Int) : Bool := bits .or .i64 a b == b
theorem runder_any (a b : Int) (w : World) :
    Calls Try.prog 26 #[.int .i64 a, .int .i64 b] w fun e w' => e = .returned (.bool (underV a b)) ∧ w = w' := by
  unfold underV
  go_enter Try.func26, Try.ntmps26
  go_wp2
  go_ret
  exact ⟨rfl, rfl⟩
theorem below_under {a b : Int} : belowV a b = (upToV a 3 && (upToV b 3 && underV a b)) := by
  by_cases ha : Lab a
  · by_cases hb : Lab b
    · rw [belowV_yes ha hb]
      unfold underV
      rcases lab_cases ha with rfl | rfl | rfl | rfl <;> rcases lab_cases hb with rfl | rfl | rfl | rfl <;> rfl
    · rw [belowV_no2 (noLab_of hb), ← mayV_up b, mayV_no (noLab_of hb), Bool.false_and, Bool.and_false]
  · rw [belowV_no1 (noLab_of ha), ← mayV_up a, mayV_no (noLab_of ha), Bool.false_and]

set_option maxHeartbeats 1000000 in
theorem rstartMay_any (id l cl : Int) (a : Option Addr) (n c : Nat) (z : Nat → Int) (w : World) (hn : n ≤ 1152921504606846976) (h : Row w a (n * 4) fun k => .int .i64 (z k)) :
    Calls Try.prog 13 #[startA id l cl (.slice a n c)] w fun e w' => e = .returned (.bool (startMay id l cl n z)) ∧ Below w.heap.size w w' := by
  unfold startMay startA
  rw [below_under]
  have C1 := hide fun w => rid_any id w
  have C2 := hide fun w => rlabel_any l w
  have C3 := hide fun w => rlabel_any cl w
  have C4 := hide fun w => runder_any l cl w
  have C5 := hide fun (w : World) h => rprogMay_any a n c z w hn h
  have R1 := hide (h.below ((Below.refl _ w).alloc (Nat.le_refl _) (.cells #[.int .i64 id, .int .i64 l, .int .i64 cl, .slice a n c] 24)) (Nat.le_refl _))
  generalize progMay n z = m at *
  generalize upToV id 254 = u at *
  generalize upToV l 3 = v at *
  generalize upToV cl 3 = x at *
  generalize underV l cl = y at *
  clear h
  cases u
  · rw [Bool.false_and]
    go_enter Try.func13, Try.ntmps13
    go_wp2_with (go_at_call 24; refine (C1.out _).mono ?_; rintro e w' ⟨rfl, rfl⟩)
    go_ret
    exact ⟨rfl, by go_grown⟩
  · cases v
    · rw [Bool.false_and, Bool.false_and, Bool.and_false]
      go_enter Try.func13, Try.ntmps13
      go_wp2_with (first | (go_at_call 24; refine (C1.out _).mono ?_; rintro e w' ⟨rfl, rfl⟩) | (go_at_call 25; refine (C2.out _).mono ?_; rintro e w' ⟨rfl, rfl⟩))
      go_ret
      exact ⟨rfl, by go_grown⟩
    · cases x
      · rw [Bool.false_and, Bool.and_false, Bool.false_and, Bool.and_false]
        go_enter Try.func13, Try.ntmps13
        go_wp2_with (first | (go_at_call 24; refine (C1.out _).mono ?_; rintro e w' ⟨rfl, rfl⟩) | (go_at_call 25; refine (C2.out _).mono ?_; rintro e w' ⟨rfl, rfl⟩) | (go_at_call 25; refine (C3.out _).mono ?_; rintro e w' ⟨rfl, rfl⟩))
        go_ret
        exact ⟨rfl, by go_grown⟩
      · cases y
        · rw [Bool.and_false, Bool.and_false, Bool.false_and, Bool.and_false]
          go_enter Try.func13, Try.ntmps13
          go_wp2_with (first | (go_at_call 24; refine (C1.out _).mono ?_; rintro e w' ⟨rfl, rfl⟩) | (go_at_call 25; refine (C2.out _).mono ?_; rintro e w' ⟨rfl, rfl⟩) | (go_at_call 25; refine (C3.out _).mono ?_; rintro e w' ⟨rfl, rfl⟩) | (go_at_call 26; refine (C4.out _).mono ?_; rintro e w' ⟨rfl, rfl⟩))
          go_ret
          exact ⟨rfl, by go_grown⟩
        · rw [Bool.and_self, Bool.and_self, Bool.true_and, Bool.true_and]
          go_enter Try.func13, Try.ntmps13
          go_wp2_with (first | (go_at_call 24; refine (C1.out _).mono ?_; rintro e w' ⟨rfl, rfl⟩) | (go_at_call 25; refine (C2.out _).mono ?_; rintro e w' ⟨rfl, rfl⟩) | (go_at_call 25; refine (C3.out _).mono ?_; rintro e w' ⟨rfl, rfl⟩) | (go_at_call 26; refine (C4.out _).mono ?_; rintro e w' ⟨rfl, rfl⟩))
          refine (C5.out _ R1.out).mono ?_
          rintro e w1 ⟨rfl, hb⟩
          have b1 : Below w.heap.size w w1 := Below.on (by go_grown) hb
          clear hb R1 C1 C2 C3 C4 C5
          go_wp2
          go_ret
          exact ⟨rfl, b1⟩

theorem far17 (w : World) (b b' o : Nat) (v0 v1 v2 v3 v4 v5 v6 v7 v8 v9 v10 v11 v12 v13 v14 v15 v16 : Value) (h : b ≠ b') : World.cell? (((((((((((((((((w.setCell ⟨b, 0, none⟩ v0).setCell ⟨b, 1, none⟩ v1).setCell ⟨b, 2, none⟩ v2).setCell ⟨b, 3, none⟩ v3).setCell ⟨b, 4, none⟩ v4).setCell ⟨b, 5, none⟩ v5).setCell ⟨b, 6, none⟩ v6).setCell ⟨b, 7, none⟩ v7).setCell ⟨b, 8, none⟩ v8).setCell ⟨b, 9, none⟩ v9).setCell ⟨b, 10, none⟩ v10).setCell ⟨b, 11, none⟩ v11).setCell ⟨b, 12, none⟩ v12).setCell ⟨b, 13, none⟩ v13).setCell ⟨b, 14, none⟩ v14).setCell ⟨b, 15, none⟩ v15).setCell ⟨b, 16, none⟩ v16) ⟨b', o, none⟩ = w.cell? ⟨b', o, none⟩ := by
  have f : ∀ (W : World) (k : Nat) (v : Value), (W.setCell ⟨b, k, none⟩ v).cell? ⟨b', o, none⟩ = W.cell? ⟨b', o, none⟩ := fun W k v => World.cell?_setCell_far W _ _ v h
  rw [f, f, f, f, f, f, f, f, f, f, f, f, f, f, f, f, f]

theorem Touch.laySess (w : World) (b : Nat) (i : Nat → Int) (p r t : Value) : Touch b (b + 1) w (World.laySess w b i p r t) :=
  (((((((((((((((((Touch.refl b (b + 1) w).setCell (a := ⟨b, 0, none⟩) (Nat.le_refl b) (Nat.lt_succ_self b) _).setCell (a := ⟨b, 1, none⟩) (Nat.le_refl b) (Nat.lt_succ_self b) _).setCell (a := ⟨b, 2, none⟩) (Nat.le_refl b) (Nat.lt_succ_self b) _).setCell (a := ⟨b, 3, none⟩) (Nat.le_refl b) (Nat.lt_succ_self b) _).setCell (a := ⟨b, 4, none⟩) (Nat.le_refl b) (Nat.lt_succ_self b) _).setCell (a := ⟨b, 5, none⟩) (Nat.le_refl b) (Nat.lt_succ_self b) _).setCell (a := ⟨b, 6, none⟩) (Nat.le_refl b) (Nat.lt_succ_self b) _).setCell (a := ⟨b, 7, none⟩) (Nat.le_refl b) (Nat.lt_succ_self b) _).setCell (a := ⟨b, 8, none⟩) (Nat.le_refl b) (Nat.lt_succ_self b) _).setCell (a := ⟨b, 9, none⟩) (Nat.le_refl b) (Nat.lt_succ_self b) _).setCell (a := ⟨b, 10, none⟩) (Nat.le_refl b) (Nat.lt_succ_self b) _).setCell (a := ⟨b, 11, none⟩) (Nat.le_refl b) (Nat.lt_succ_self b) _).setCell (a := ⟨b, 12, none⟩) (Nat.le_refl b) (Nat.lt_succ_self b) _).setCell (a := ⟨b, 13, none⟩) (Nat.le_refl b) (Nat.lt_succ_self b) _).setCell (a := ⟨b, 14, none⟩) (Nat.le_refl b) (Nat.lt_succ_self b) _).setCell (a := ⟨b, 15, none⟩) (Nat.le_refl b) (Nat.lt_succ_self b) _).setCell (a := ⟨b, 16, none⟩) (Nat.le_refl b) (Nat.lt_succ_self b) _
theorem size_laySess (w : World) (b : Nat) (i : Nat → Int) (p r t : Value) : (World.laySess w b i p r t).heap.size = w.heap.size := by
  unfold World.laySess
  simp only [World.size_setCell]

theorem step_append_own {P : Program} {ops : Array Oper} {o : Oper} {a : Act} {w : World} {K : Act → World → Prop} {Q : Exit → Act → World → Prop} {E : Prop} (hgd : o.guard = none) (s x : Operand) (t : TypeId)
    (ho : o.op = .call { callee := .builtin .append, args := #[s, x], argTypes := #[t, t] })
    (base : Nat) (e : TypeId) (i : TypeInfo) (z : Value) (size bytes : Nat) (ht : P.underlying t = some (.slice e)) (hi : P.info? e = some i) (hz : i.zero = some z)
    (hsize : i.size = size) (hby : i.bytes = bytes) (hzs : z.cells.size = size) (hsz : 0 < size)
    (v : Value) (n : Nat) (xs : List Value) (hs : a.eval s = v) (hown : w.ownsRow base e size v n xs)
    (ad : Addr) (m c : Nat) (news : List Value) (hx : a.eval x = .slice (some ad) m c) (hl : news.length = m * size) (hnews : ∀ j u, news[j]? = some u → w.cell? (ad.add j) = some u) (h1 : ∀ u ∈ news, u.oneCell' = true)
    (h63 : n + m ≤ maxLen) (hbytes : (n + m) * bytes ≤ 140737488355328) (hbase : base ≤ w.heap.size)
    (h : ∀ v' w', w'.ownsRow base e size v' (n + m) (xs ++ news) → w.grownBy w' v.ownBlock → (v' = .slice none 0 0 ↔ v = .slice none 0 0 ∧ m = 0) → K (a.put o.dst v') w') :
    if Region.wanted o (yielded ops a.tmps) = true then Oper.wp P o a w K Q else E := by
  have hw : Region.wanted o (yielded ops a.tmps) = true := by simp [Region.wanted, hgd]
  rw [if_pos hw]
  exact wp_append_own w s x t ho base e i z size bytes ht hi hz hsize hby hzs hsz v n xs hs hown ad m c news hx hl hnews h1 h63 hbytes hbase h

set_option maxRecDepth 100000 in
set_option maxHeartbeats 4000000 in
theorem rnew_no (id l cl : Int) (a : Option Addr) (n c : Nat) (z : Nat → Int) (w : World) (hm : startMay id l cl n z = false) (hn : n * 32 ≤ 140737488351232) (ha : a = none → n = 0 ∧ c = 0) (h : Row w a (n * 4) fun k => .int .i64 (z k)) :
    Calls Try.prog 9 #[startA id l cl (.slice a n c)] w (NewSPost id l cl n z w) := by
  obtain ⟨i0, hi, hz0, hz1, hz2⟩ := info_parts Try.infoInst
  have hb0 : Below w.heap.size w ((w.alloc (.cells (startL id l cl (.slice a n c)).toArray 24)).alloc (.cells (sessL (fun _ => 0) (.slice none 0 0) (.slice none 0 0) (.slice none 0 0)).toArray 30)) := ((Below.refl _ w).alloc (Nat.le_refl _) _).alloc (by simp) _
  have B0 := (blk_new w (startL id l cl (.slice a n c)) 24).alloc (.cells (sessL (fun _ => 0) (.slice none 0 0) (.slice none 0 0) (.slice none 0 0)).toArray 30)
  have B1 := blk_new (w.alloc (.cells (startL id l cl (.slice a n c)).toArray 24)) (sessL (fun _ => 0) (.slice none 0 0) (.slice none 0 0) (.slice none 0 0)) 30
  rw [World.size_alloc] at B1
  have C := hide (rstartMay_any id l cl a n c z _ (by omega) (h.below hb0 (Nat.le_refl _)))
  rw [hm] at C
  unfold startA at *
  go_enter Try.func9, Try.ntmps9
  go_wp2_with fail
  refine C.out.mono ?_
  rintro e w1 ⟨rfl, hb⟩
  have b1 : Below w.heap.size w w1 := Below.on hb0 hb
  replace B1 := B1.on hb
  clear C hb hb0 B0
  have hs := B1.lt
  clear hz0 hz1 hz2 hi h ha
  go_wp2_with (refine wpList_store_all rfl 30 (.tmp 2) (.tmp 7) rfl (w.heap.size + 1) _ (sessL (fun _ => 0) (.slice none 0 0) (.slice none 0 0) (.slice none 0 0)) rfl rfl B1 rfl Try.sizeSess rfl ?_; intro W BW TW sW)
  have b2 : Below w.heap.size w W := b1.trans ((TW.below (by omega)).mono (by omega))
  replace BW := hide BW
  clear B1 b1 TW sW hs
  go_wp2
  exact bodyPost_ret (ret_sess Try.results9 BW.out rfl rfl) rfl (newS_no hm b2)

end Go.Proofs.Ytlaanhkmoficbaa
