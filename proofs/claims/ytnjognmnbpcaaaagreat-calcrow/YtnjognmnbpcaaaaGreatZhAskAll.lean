/-
  The landed ask.All, of instructions, events, sessions, numbers.
-/
import Derived.Test.YtnjognmnbpcaaaaGreatZlah
import Derived.Test.YtnjognmnbpcaaaaGreatZlac
namespace Go.Proofs.YtnjognmnbpcaaaaGreat
open Go.RowKit
set_option linter.unusedSimpArgs false
set_option linter.unusedVariables false
def zeroEL : List Value := [.int .i64 0, .int .i64 0, .int .i64 0, .int .i64 0]
theorem zeroE : ((Tryz.prog.info? 88).bind (·.zero)).map (·.cells) = some zeroEL.toArray := by kernel_rfl
theorem st_of {w wr : World} (hb : Below w.heap.size w wr) : St w wr [] := (St.refl w).on hb
set_option maxRecDepth 10000 in
set_option maxHeartbeats 1000000 in
theorem askAllI_any (F : FuncId) (fs cs : Array Value) (p : Nat → Bool) (s : Sl) (L : List Int) (w : World) (h : SlIs w 4 s L)
    (hF : ∀ args W, Sem.run Tryz.prog (callFunc F args) W = .ok (.enter F args) W)
    (C : Hid (∀ k, k < s.n → ∀ W, Below w.heap.size w W → Calls Tryz.prog F (fs.push (.agg #[.int .i64 (lz L (k * 4)), .int .i64 (lz L (k * 4 + 1)), .int .i64 (lz L (k * 4 + 2)), .int .i64 (lz L (k * 4 + 3))]) ++ cs) W fun e w' => e = .returned (.bool (p k)) ∧ Below W.heap.size W w')) :
    Calls Tryz.prog 126 #[.slice s.a s.n s.c, .func (.func F) fs cs] w fun e w' => e = .returned (.bool (allTo p s.n)) ∧ Below w.heap.size w w' := by
  have hn : s.n ≤ 1152921504606846976 := by have := h.2.1.1; omega
  have H := hide fun (W : World) (hb : Below w.heap.size w W) (k : Nat) (hk : k < s.n) => (h.below hb).four hk
  clear h
  go_enter Tryz.func126, Tryz.ntmps126
  go_wp2
  go_loopw [9] (fun i wr => ∃ k : Nat, k ≤ s.n ∧ i = .int .i64 k ∧ Hid (allTo p k = true) ∧ Below w.heap.size w wr) (fun i _ => s.n - (intOf i).toNat)
  case atStart => exact ⟨0, Nat.zero_le _, rfl, rfl, Below.refl _ _⟩
  case round =>
    obtain ⟨k, hk, rfl, HT, hb⟩ := hrel
    by_cases hlt : k < s.n
    · have i1 : (k : Int) < (s.n : Int) := by omega
      obtain ⟨b, off, hsa, hbl, hR⟩ := H.out _ hb k hlt
      replace hR := hide hR
      have C1 := hide (C.out k hlt)
      have HS := hide (st_of hb)
      clear C H hb
      cases hp : p k
      · rw [hp] at C1
        have HN : Hid (allTo p s.n = false) := allTo_no k hlt hp
        clear hp
        go_wp2_with (first | ((with_reducible refine isList ?_); first | (refine wpList_load_at _ _ rfl rfl b (off + k * 4) rfl [.int .i64 (lz L (k * 4)), .int .i64 (lz L (k * 4 + 1)), .int .i64 (lz L (k * 4 + 2)), .int .i64 (lz L (k * 4 + 3))] (by decide +kernel) (by kernel_rfl) hR.out ?_) | (refine st_alloc HS _ rfl rfl zeroIL zeroI ?_; clear HS; intro W bx HS) | (refine st_storeA HS 0 rfl _ _ _ rfl rfl rfl _ rfl rfl (by kernel_rfl) rfl ?_; clear HS; intro W HS) | (refine st_loadA HS 0 rfl _ _ rfl rfl rfl (by decide +kernel) (by kernel_rfl) ?_)))
        refine (C1.out _ HS.out.below).mono ?_
        rintro e w1 ⟨rfl, hb1⟩
        replace HS := hide (HS.out.on hb1)
        clear hb1 C1 hF hR hsa
        go_wp2
        go_ret
        exact ⟨ret_bool HN.out.symm, HS.out.below⟩
      · rw [hp] at C1
        have HN : Hid (allTo p (k + 1) = true) := by
          show allTo p (k + 1) = true
          rw [allTo, HT.out, hp]
          rfl
        clear hp
        go_wp2_with (first | ((with_reducible refine isList ?_); first | (refine wpList_load_at _ _ rfl rfl b (off + k * 4) rfl [.int .i64 (lz L (k * 4)), .int .i64 (lz L (k * 4 + 1)), .int .i64 (lz L (k * 4 + 2)), .int .i64 (lz L (k * 4 + 3))] (by decide +kernel) (by kernel_rfl) hR.out ?_) | (refine st_alloc HS _ rfl rfl zeroIL zeroI ?_; clear HS; intro W bx HS) | (refine st_storeA HS 0 rfl _ _ _ rfl rfl rfl _ rfl rfl (by kernel_rfl) rfl ?_; clear HS; intro W HS) | (refine st_loadA HS 0 rfl _ _ rfl rfl rfl (by decide +kernel) (by kernel_rfl) ?_)))
        refine (C1.out _ HS.out.below).mono ?_
        rintro e w1 ⟨rfl, hb1⟩
        replace HS := hide (HS.out.on hb1)
        clear hb1 C1 hF hR
        go_wp2
        go_roundw
        case rel =>
          repeat apply Exists.intro
          exact ⟨⟨k + 1, by omega, by go_num, HN, HS.out.below⟩, by rw [hsa]; rfl⟩
        case measure => simp [intOf]; omega
    · obtain rfl : k = s.n := by omega
      go_wp2
      go_ret
      exact ⟨ret_bool HT.out.symm, hb⟩
set_option maxRecDepth 10000 in
set_option maxHeartbeats 1000000 in
theorem askAllE_any (F : FuncId) (fs cs : Array Value) (p : Nat → Bool) (s : Sl) (L : List Int) (w : World) (h : SlIs w 4 s L)
    (hF : ∀ args W, Sem.run Tryz.prog (callFunc F args) W = .ok (.enter F args) W)
    (C : Hid (∀ k, k < s.n → ∀ W, Below w.heap.size w W → Calls Tryz.prog F (fs.push (.agg #[.int .i64 (lz L (k * 4)), .int .i64 (lz L (k * 4 + 1)), .int .i64 (lz L (k * 4 + 2)), .int .i64 (lz L (k * 4 + 3))]) ++ cs) W fun e w' => e = .returned (.bool (p k)) ∧ Below W.heap.size W w')) :
    Calls Tryz.prog 119 #[.slice s.a s.n s.c, .func (.func F) fs cs] w fun e w' => e = .returned (.bool (allTo p s.n)) ∧ Below w.heap.size w w' := by
  have hn : s.n ≤ 1152921504606846976 := by have := h.2.1.1; omega
  have H := hide fun (W : World) (hb : Below w.heap.size w W) (k : Nat) (hk : k < s.n) => (h.below hb).four hk
  clear h
  go_enter Tryz.func119, Tryz.ntmps119
  go_wp2
  go_loopw [9] (fun i wr => ∃ k : Nat, k ≤ s.n ∧ i = .int .i64 k ∧ Hid (allTo p k = true) ∧ Below w.heap.size w wr) (fun i _ => s.n - (intOf i).toNat)
  case atStart => exact ⟨0, Nat.zero_le _, rfl, rfl, Below.refl _ _⟩
  case round =>
    obtain ⟨k, hk, rfl, HT, hb⟩ := hrel
    by_cases hlt : k < s.n
    · have i1 : (k : Int) < (s.n : Int) := by omega
      obtain ⟨b, off, hsa, hbl, hR⟩ := H.out _ hb k hlt
      replace hR := hide hR
      have C1 := hide (C.out k hlt)
      have HS := hide (st_of hb)
      clear C H hb
      cases hp : p k
      · rw [hp] at C1
        have HN : Hid (allTo p s.n = false) := allTo_no k hlt hp
        clear hp
        go_wp2_with (first | ((with_reducible refine isList ?_); first | (refine wpList_load_at _ _ rfl rfl b (off + k * 4) rfl [.int .i64 (lz L (k * 4)), .int .i64 (lz L (k * 4 + 1)), .int .i64 (lz L (k * 4 + 2)), .int .i64 (lz L (k * 4 + 3))] (by decide +kernel) (by kernel_rfl) hR.out ?_) | (refine st_alloc HS _ rfl rfl zeroEL zeroE ?_; clear HS; intro W bx HS) | (refine st_storeA HS 0 rfl _ _ _ rfl rfl rfl _ rfl rfl (by kernel_rfl) rfl ?_; clear HS; intro W HS) | (refine st_loadA HS 0 rfl _ _ rfl rfl rfl (by decide +kernel) (by kernel_rfl) ?_)))
        refine (C1.out _ HS.out.below).mono ?_
        rintro e w1 ⟨rfl, hb1⟩
        replace HS := hide (HS.out.on hb1)
        clear hb1 C1 hF hR hsa
        go_wp2
        go_ret
        exact ⟨ret_bool HN.out.symm, HS.out.below⟩
      · rw [hp] at C1
        have HN : Hid (allTo p (k + 1) = true) := by
          show allTo p (k + 1) = true
          rw [allTo, HT.out, hp]
          rfl
        clear hp
        go_wp2_with (first | ((with_reducible refine isList ?_); first | (refine wpList_load_at _ _ rfl rfl b (off + k * 4) rfl [.int .i64 (lz L (k * 4)), .int .i64 (lz L (k * 4 + 1)), .int .i64 (lz L (k * 4 + 2)), .int .i64 (lz L (k * 4 + 3))] (by decide +kernel) (by kernel_rfl) hR.out ?_) | (refine st_alloc HS _ rfl rfl zeroEL zeroE ?_; clear HS; intro W bx HS) | (refine st_storeA HS 0 rfl _ _ _ rfl rfl rfl _ rfl rfl (by kernel_rfl) rfl ?_; clear HS; intro W HS) | (refine st_loadA HS 0 rfl _ _ rfl rfl rfl (by decide +kernel) (by kernel_rfl) ?_)))
        refine (C1.out _ HS.out.below).mono ?_
        rintro e w1 ⟨rfl, hb1⟩
        replace HS := hide (HS.out.on hb1)
        clear hb1 C1 hF hR
        go_wp2
        go_roundw
        case rel =>
          repeat apply Exists.intro
          exact ⟨⟨k + 1, by omega, by go_num, HN, HS.out.below⟩, by rw [hsa]; rfl⟩
        case measure => simp [intOf]; omega
    · obtain rfl : k = s.n := by omega
      go_wp2
      go_ret
      exact ⟨ret_bool HT.out.symm, hb⟩
set_option maxRecDepth 10000 in
set_option maxHeartbeats 1000000 in
theorem askAllS_any (F : FuncId) (fs cs : Array Value) (p : Nat → Bool) (s : Sl) (q : Nat → SesM) (X : List PSess) (w : World) (h : SesIs w s q X)
    (hF : ∀ args W, Sem.run Tryz.prog (callFunc F args) W = .ok (.enter F args) W)
    (C : Hid (∀ k, k < s.n → ∀ W, Below w.heap.size w W → Calls Tryz.prog F (fs.push (.agg (sessOf (q k) (X.getD k noSess)).toArray) ++ cs) W fun e w' => e = .returned (.bool (p k)) ∧ Below W.heap.size W w')) :
    Calls Tryz.prog 100 #[.slice s.a s.n s.c, .func (.func F) fs cs] w fun e w' => e = .returned (.bool (allTo p s.n)) ∧ Below w.heap.size w w' := by
  have hn : s.n ≤ 1152921504606846976 := by have := h.2.1.1; omega
  have H := hide fun (W : World) (hb : Below w.heap.size w W) (k : Nat) (hk : k < s.n) => (h.below hb).range hk
  clear h
  go_enter Tryz.func100, Tryz.ntmps100
  go_wp2
  go_loopw [9] (fun i wr => ∃ k : Nat, k ≤ s.n ∧ i = .int .i64 k ∧ Hid (allTo p k = true) ∧ Below w.heap.size w wr) (fun i _ => s.n - (intOf i).toNat)
  case atStart => exact ⟨0, Nat.zero_le _, rfl, rfl, Below.refl _ _⟩
  case round =>
    obtain ⟨k, hk, rfl, HT, hb⟩ := hrel
    by_cases hlt : k < s.n
    · have i1 : (k : Int) < (s.n : Int) := by omega
      obtain ⟨b, off, hsa, hbl, hR⟩ := H.out _ hb k hlt
      replace hR := hide hR
      have C1 := hide (C.out k hlt)
      have HS := hide (st_of hb)
      clear C H hb
      cases hp : p k
      · rw [hp] at C1
        have HN : Hid (allTo p s.n = false) := allTo_no k hlt hp
        clear hp
        go_wp2_with (first | ((with_reducible refine isList ?_); first | (refine wpList_load_at _ _ rfl rfl b (off + k * 17) rfl (sessOf (q k) (X.getD k noSess)) (by decide +kernel) (by kernel_rfl) hR.out ?_) | (refine st_alloc HS _ rfl rfl zeroSL zeroS ?_; clear HS; intro W bx HS) | (refine st_storeA HS 0 rfl _ _ _ rfl rfl rfl _ rfl rfl (by kernel_rfl) rfl ?_; clear HS; intro W HS) | (refine st_loadA HS 0 rfl _ _ rfl rfl rfl (by decide +kernel) (by kernel_rfl) ?_)))
        refine (C1.out _ HS.out.below).mono ?_
        rintro e w1 ⟨rfl, hb1⟩
        replace HS := hide (HS.out.on hb1)
        clear hb1 C1 hF hR hsa
        go_wp2
        go_ret
        exact ⟨ret_bool HN.out.symm, HS.out.below⟩
      · rw [hp] at C1
        have HN : Hid (allTo p (k + 1) = true) := by
          show allTo p (k + 1) = true
          rw [allTo, HT.out, hp]
          rfl
        clear hp
        go_wp2_with (first | ((with_reducible refine isList ?_); first | (refine wpList_load_at _ _ rfl rfl b (off + k * 17) rfl (sessOf (q k) (X.getD k noSess)) (by decide +kernel) (by kernel_rfl) hR.out ?_) | (refine st_alloc HS _ rfl rfl zeroSL zeroS ?_; clear HS; intro W bx HS) | (refine st_storeA HS 0 rfl _ _ _ rfl rfl rfl _ rfl rfl (by kernel_rfl) rfl ?_; clear HS; intro W HS) | (refine st_loadA HS 0 rfl _ _ rfl rfl rfl (by decide +kernel) (by kernel_rfl) ?_)))
        refine (C1.out _ HS.out.below).mono ?_
        rintro e w1 ⟨rfl, hb1⟩
        replace HS := hide (HS.out.on hb1)
        clear hb1 C1 hF hR
        go_wp2
        go_roundw
        case rel =>
          repeat apply Exists.intro
          exact ⟨⟨k + 1, by omega, by go_num, HN, HS.out.below⟩, by rw [hsa]; rfl⟩
        case measure => simp [intOf]; omega
    · obtain rfl : k = s.n := by omega
      go_wp2
      go_ret
      exact ⟨ret_bool HT.out.symm, hb⟩
set_option maxRecDepth 10000 in
set_option maxHeartbeats 1000000 in
theorem askAllN_any (F : FuncId) (fs cs : Array Value) (p : Nat → Bool) (b n c : Nat) (z : Nat → Int) (w : World) (hn : n ≤ 1152921504606846976)
    (hF : ∀ args W, Sem.run Tryz.prog (callFunc F args) W = .ok (.enter F args) W)
    (h : Hid (∀ k, k < n → ∀ W, Below w.heap.size w W → W.cell? ⟨b, k, none⟩ = some (.int .i64 (z k))))
    (C : Hid (∀ k, k < n → ∀ W, Below w.heap.size w W → Calls Tryz.prog F (fs.push (.int .i64 (z k)) ++ cs) W fun e w' => e = .returned (.bool (p k)) ∧ Below W.heap.size W w')) :
    Calls Tryz.prog 117 #[.slice (some ⟨b, 0, none⟩) n c, .func (.func F) fs cs] w fun e w' => e = .returned (.bool (allTo p n)) ∧ Below w.heap.size w w' := by
  go_enter Tryz.func117, Tryz.ntmps117
  go_wp2
  go_loopw [9] (fun i wr => ∃ k : Nat, k ≤ n ∧ i = .int .i64 k ∧ Hid (allTo p k = true) ∧ Below w.heap.size w wr) (fun i _ => n - (intOf i).toNat)
  case atStart => exact ⟨0, Nat.zero_le _, rfl, rfl, Below.refl _ _⟩
  case round =>
    obtain ⟨k, hk, rfl, HT, hb⟩ := hrel
    by_cases hlt : k < n
    · have i1 : (k : Int) < (n : Int) := by omega
      have d0 := h.out k hlt _ hb
      have C1 := hide (C.out k hlt _ hb)
      clear C h
      cases hp : p k
      · rw [hp] at C1
        have HN : Hid (allTo p n = false) := allTo_no k hlt hp
        clear hp
        go_wp2_with fail
        refine C1.out.mono ?_
        rintro e w1 ⟨rfl, hb1⟩
        have b1 : Below w.heap.size w w1 := Below.on hb hb1
        clear hb1 d0 C1 hF
        go_wp2
        go_ret
        exact ⟨ret_bool HN.out.symm, b1⟩
      · rw [hp] at C1
        have HN : Hid (allTo p (k + 1) = true) := by
          show allTo p (k + 1) = true
          rw [allTo, HT.out, hp]
          rfl
        clear hp
        go_wp2_with fail
        refine C1.out.mono ?_
        rintro e w1 ⟨rfl, hb1⟩
        have b1 : Below w.heap.size w w1 := Below.on hb hb1
        clear hb1 d0 C1 hF hb
        go_wp2
        go_roundw
        case rel => exact ⟨k + 1, by omega, by go_num, HN, b1⟩
        case measure => simp [intOf]; omega
    · obtain rfl : k = n := by omega
      go_wp2
      go_ret
      exact ⟨ret_bool HT.out.symm, hb⟩
end Go.Proofs.YtnjognmnbpcaaaaGreat
