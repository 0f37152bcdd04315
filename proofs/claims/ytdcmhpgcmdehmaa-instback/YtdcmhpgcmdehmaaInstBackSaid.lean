/-
  The law InstBack, if package inst's functions keep their statements.
-/
import Derived.Test.YtdcmhpgcmdehmaaInstStat
import Derived.Deep.Cut
namespace Go.Proofs.Ytdcmhpgcmdehmaa
open Go.RowKit
set_option linter.unusedSimpArgs false
set_option linter.unusedVariables false

theorem text_list (l : List UInt8) : (⟨l.toArray⟩ : ByteArray).toList = l := by
  rw [ByteArray.toList_eq]
theorem put_yes {i : Nat → Int} (h : instMay i = true) : putIT i = instT i ∧ putIE i = 0 := by unfold putIT putIE; rw [h]; exact ⟨rfl, rfl⟩
theorem put_not {i : Nat → Int} (h : instMay i = false) : putIT i = [] ∧ putIE i = 700 := by unfold putIT putIE; rw [h]; exact ⟨rfl, rfl⟩
theorem get_yes {l : List UInt8} (h : getIOk l = true) : getII l = instOf l ∧ getIE l = 0 ∧ l.length = 4 ∧ instMay (instOf l) = true := by
  unfold getII getIE; rw [h]
  unfold getIOk at h
  simp only [Bool.and_eq_true, decide_eq_true_eq] at h
  exact ⟨rfl, rfl, h.1, h.2⟩
theorem get_not {l : List UInt8} (h : getIOk l = false) : getII l = (fun _ => 0) ∧ getIE l = 700 := by unfold getII getIE; rw [h]; exact ⟨rfl, rfl⟩
/-- What was put is got. -/
theorem get_put {i : Nat → Int} (h : instMay i = true) : quadA (getII (instT i)) = quadA i ∧ getIE (instT i) = 0 := by
  have hi := instOf_instT h
  have hok : getIOk (instT i) = true := by
    unfold getIOk
    rw [instMay_congr hi, h]
    rfl
  obtain ⟨e1, e2, _⟩ := get_yes hok
  rw [e1]
  refine ⟨?_, e2⟩
  unfold quadA
  rw [hi 0 (by omega), hi 1 (by omega), hi 2 (by omega), hi 3 (by omega)]

set_option maxRecDepth 100000 in
set_option maxHeartbeats 4000000 in
theorem instBack_said (hM : MayIC) (hP : PutIC) (hG : GetIC) (i : Nat → Int) (l : List UInt8) (w : World) :
    Calls Try.prog 5 #[quadA i, textS l] w fun e w' => e = .returned (.bool true) ∧ Below w.heap.size w w' := by
  have C0 := hide fun w => awake7_any hM hP hG w
  cases hi : instMay i <;> cases hl : getIOk l
  · have A1 := hP i
    have A3 := hG l
    rw [(put_not hi).1, (put_not hi).2] at A1
    rw [(get_not hl).1, (get_not hl).2] at A3
    unfold quadA textS at *
    have C1 := hide A1
    have C3 := hide A3
    clear A1 A3 hM hP hG hi hl
    go_enter Try.func5, Try.ntmps5
    go_wp2_with fail
    refine (C0.out _).mono ?_
    rintro e w1 ⟨rfl, hb⟩
    have b1 : Below w.heap.size w w1 := Below.on (by go_grown) hb
    have B0 := (blk_new w (quadL i) 23).on hb
    have y0 := B0.lt
    clear hb C0
    obtain ⟨c0, c1, c2, c3⟩ := B0.cells4
    go_wp2_with fail
    refine (C1.out _).mono ?_
    rintro e w2 ⟨rfl, hb⟩
    have b2 : Below w.heap.size w w2 := Below.on b1 hb
    have s2 := b2.size
    replace B0 := B0.on hb
    clear hb C1 c0 c1 c2 c3 b1 y0
    go_wp2_with (go_at_call 11; refine (num_any _ _).mono ?_; rintro e w' ⟨rfl, rfl⟩)
    refine (C3.out _).mono ?_
    rintro e w4 ⟨rfl, hb⟩
    have b4 : Below w.heap.size w w4 := Below.on b2 hb
    have s4 := b4.size
    clear hb C3 b2 s2 B0
    go_wp2_with (go_at_call 11; refine (num_any _ _).mono ?_; rintro e w' ⟨rfl, rfl⟩)
    go_ret
    exact ⟨rfl, b4.alloc s4 _⟩
  · have A1 := hP i
    have A3 := hG l
    rw [(put_not hi).1, (put_not hi).2] at A1
    have A4 := hP (instOf l)
    have A5 := hM (instOf l)
    rw [(get_yes hl).1, (get_yes hl).2.1] at A3
    rw [(get_yes hl).2.2.2] at A5
    rw [(put_yes (get_yes hl).2.2.2).1, (put_yes (get_yes hl).2.2.2).2, instT_instOf (get_yes hl).2.2.1] at A4
    have tx := text_list l
    generalize instOf l = j at *
    unfold quadA textS at *
    have C1 := hide A1
    have C3 := hide A3
    have C4 := hide A4
    have C5 := hide A5
    clear A4 A5
    clear A1 A3 hM hP hG hi hl
    go_enter Try.func5, Try.ntmps5
    go_wp2_with fail
    refine (C0.out _).mono ?_
    rintro e w1 ⟨rfl, hb⟩
    have b1 : Below w.heap.size w w1 := Below.on (by go_grown) hb
    have B0 := (blk_new w (quadL i) 23).on hb
    have y0 := B0.lt
    clear hb C0
    obtain ⟨c0, c1, c2, c3⟩ := B0.cells4
    go_wp2_with fail
    refine (C1.out _).mono ?_
    rintro e w2 ⟨rfl, hb⟩
    have b2 : Below w.heap.size w w2 := Below.on b1 hb
    have s2 := b2.size
    replace B0 := B0.on hb
    clear hb C1 c0 c1 c2 c3 b1 y0
    go_wp2_with (go_at_call 11; refine (num_any _ _).mono ?_; rintro e w' ⟨rfl, rfl⟩)
    refine (C3.out _).mono ?_
    rintro e w4 ⟨rfl, hb⟩
    have b4 : Below w.heap.size w w4 := Below.on b2 hb
    have s4 := b4.size
    clear hb C3 b2 s2 B0
    go_wp2_with (go_at_call 11; refine (num_any _ _).mono ?_; rintro e w' ⟨rfl, rfl⟩)
    refine (C4.out _).mono ?_
    rintro e w5 ⟨rfl, hb⟩
    have b5 : Below w.heap.size w w5 := Below.on (b4.alloc s4 _) hb
    have B4 := (blk_new w4 (quadL j) 23).on hb
    clear hb C4 b4 s4
    obtain ⟨c0, c1, c2, c3⟩ := B4.cells4
    go_wp2_with (go_at_call 11; refine (num_any _ _).mono ?_; rintro e w' ⟨rfl, rfl⟩)
    refine (C5.out _).mono ?_
    rintro e w6 ⟨rfl, hb⟩
    have b6 : Below w.heap.size w w6 := Below.on b5 hb
    clear hb C5 b5 c0 c1 c2 c3 B4
    go_wp2
    go_ret
    exact ⟨rfl, b6⟩
  · have A1 := hP i
    have A3 := hG l
    have A2 := hG (instT i)
    rw [(put_yes hi).1, (put_yes hi).2] at A1
    rw [(get_put hi).1, (get_put hi).2] at A2
    have ln := instT_len i
    have tl := text_size (instT i)
    generalize instT i = t at *
    rw [(get_not hl).1, (get_not hl).2] at A3
    unfold quadA textS at *
    have C1 := hide A1
    have C3 := hide A3
    have C2 := hide A2
    clear A2
    clear A1 A3 hM hP hG hi hl
    go_enter Try.func5, Try.ntmps5
    go_wp2_with fail
    refine (C0.out _).mono ?_
    rintro e w1 ⟨rfl, hb⟩
    have b1 : Below w.heap.size w w1 := Below.on (by go_grown) hb
    have B0 := (blk_new w (quadL i) 23).on hb
    have y0 := B0.lt
    clear hb C0
    obtain ⟨c0, c1, c2, c3⟩ := B0.cells4
    go_wp2_with fail
    refine (C1.out _).mono ?_
    rintro e w2 ⟨rfl, hb⟩
    have b2 : Below w.heap.size w w2 := Below.on b1 hb
    have s2 := b2.size
    replace B0 := B0.on hb
    clear hb C1 c0 c1 c2 c3 b1 y0
    go_wp2_with (go_at_call 11; refine (num_any _ _).mono ?_; rintro e w' ⟨rfl, rfl⟩)
    refine (C2.out _).mono ?_
    rintro e w3 ⟨rfl, hb⟩
    have b3 : Below w.heap.size w w3 := Below.on b2 hb
    have s3 := b3.size
    replace B0 := B0.on hb
    have y0 := B0.lt
    clear hb C2 b2 s2
    obtain ⟨c0, c1, c2, c3⟩ := B0.cells4
    go_wp2_with (go_at_call 11; refine (num_any _ _).mono ?_; rintro e w' ⟨rfl, rfl⟩)
    refine (C3.out _).mono ?_
    rintro e w4 ⟨rfl, hb⟩
    have b4 : Below w.heap.size w w4 := Below.on (b3.alloc s3 _) hb
    have s4 := b4.size
    clear hb C3 b3 s3 c0 c1 c2 c3 y0 B0
    go_wp2_with (go_at_call 11; refine (num_any _ _).mono ?_; rintro e w' ⟨rfl, rfl⟩)
    go_ret
    exact ⟨rfl, b4.alloc s4 _⟩
  · have A1 := hP i
    have A3 := hG l
    have A2 := hG (instT i)
    rw [(put_yes hi).1, (put_yes hi).2] at A1
    rw [(get_put hi).1, (get_put hi).2] at A2
    have ln := instT_len i
    have tl := text_size (instT i)
    generalize instT i = t at *
    have A4 := hP (instOf l)
    have A5 := hM (instOf l)
    rw [(get_yes hl).1, (get_yes hl).2.1] at A3
    rw [(get_yes hl).2.2.2] at A5
    rw [(put_yes (get_yes hl).2.2.2).1, (put_yes (get_yes hl).2.2.2).2, instT_instOf (get_yes hl).2.2.1] at A4
    have tx := text_list l
    generalize instOf l = j at *
    unfold quadA textS at *
    have C1 := hide A1
    have C3 := hide A3
    have C2 := hide A2
    clear A2
    have C4 := hide A4
    have C5 := hide A5
    clear A4 A5
    clear A1 A3 hM hP hG hi hl
    go_enter Try.func5, Try.ntmps5
    go_wp2_with fail
    refine (C0.out _).mono ?_
    rintro e w1 ⟨rfl, hb⟩
    have b1 : Below w.heap.size w w1 := Below.on (by go_grown) hb
    have B0 := (blk_new w (quadL i) 23).on hb
    have y0 := B0.lt
    clear hb C0
    obtain ⟨c0, c1, c2, c3⟩ := B0.cells4
    go_wp2_with fail
    refine (C1.out _).mono ?_
    rintro e w2 ⟨rfl, hb⟩
    have b2 : Below w.heap.size w w2 := Below.on b1 hb
    have s2 := b2.size
    replace B0 := B0.on hb
    clear hb C1 c0 c1 c2 c3 b1 y0
    go_wp2_with (go_at_call 11; refine (num_any _ _).mono ?_; rintro e w' ⟨rfl, rfl⟩)
    refine (C2.out _).mono ?_
    rintro e w3 ⟨rfl, hb⟩
    have b3 : Below w.heap.size w w3 := Below.on b2 hb
    have s3 := b3.size
    replace B0 := B0.on hb
    have y0 := B0.lt
    clear hb C2 b2 s2
    obtain ⟨c0, c1, c2, c3⟩ := B0.cells4
    go_wp2_with (go_at_call 11; refine (num_any _ _).mono ?_; rintro e w' ⟨rfl, rfl⟩)
    refine (C3.out _).mono ?_
    rintro e w4 ⟨rfl, hb⟩
    have b4 : Below w.heap.size w w4 := Below.on (b3.alloc s3 _) hb
    have s4 := b4.size
    clear hb C3 b3 s3 c0 c1 c2 c3 y0 B0
    go_wp2_with (go_at_call 11; refine (num_any _ _).mono ?_; rintro e w' ⟨rfl, rfl⟩)
    refine (C4.out _).mono ?_
    rintro e w5 ⟨rfl, hb⟩
    have b5 : Below w.heap.size w w5 := Below.on (b4.alloc s4 _) hb
    have B4 := (blk_new w4 (quadL j) 23).on hb
    clear hb C4 b4 s4
    obtain ⟨c0, c1, c2, c3⟩ := B4.cells4
    go_wp2_with (go_at_call 11; refine (num_any _ _).mono ?_; rintro e w' ⟨rfl, rfl⟩)
    refine (C5.out _).mono ?_
    rintro e w6 ⟨rfl, hb⟩
    have b6 : Below w.heap.size w w6 := Below.on b5 hb
    clear hb C5 b5 c0 c1 c2 c3 B4
    go_wp2
    go_ret
    exact ⟨rfl, b6⟩

end Go.Proofs.Ytdcmhpgcmdehmaa
