/-
  The law ArenaNew: a new arena has its values, of version 0, free. Its walk, if the four functions keep their statements.
-/
import Derived.Test.YtmjclmjnkmhciaaArenaAwake
import Derived.Test.YtmjclmjnkmhciaaArenaSame
namespace Go.Proofs.Ytmjclmjnkmhciaa
open Go.RowKit

set_option maxRecDepth 10000 in
set_option maxHeartbeats 2000000 in
theorem arenaNew_said (hNew : NewC) (hMay : MayC) (hGet : GetC) (hPut : PutC) (v : Nat → Sl) (y : Nat → Nat → Int) (w : World) (hfv : VFit v) (hv : Vals w v y) :
    Calls Try.prog 6 #[arenaA v] w fun e w' => e = .returned (.bool true) ∧ Below w.heap.size w w' := by
  unfold arenaA
  go_enter Try.func6, Try.ntmps6
  go_wp2_with fail
  refine (awake4_any hNew hMay hGet hPut _).mono ?_
  rintro e w1 ⟨rfl, hb⟩
  have b1 : Below w.heap.size w w1 := Below.on (by go_grown) hb
  have H : Held w1 [(w.heap.size, arenaL v)] := (Held.cons (blk_new w (arenaL v) _) (Held.nil _)).on hb
  have HFV := hide hfv
  have HV := hide hv
  clear hb hfv hv
  obtain ⟨⟨c0, c1, c2, c3⟩, cf0, cf1, cf2, cf3⟩ := (H.at 0 rfl).four
  go_wp2_with fail
  refine (hNew v y _ HFV.out (HV.out.below b1 (Nat.le_refl _))).mono ?_
  rintro e w2 ⟨t, rfl, hny, hF, hb, hno, hnn⟩
  clear c0 c1 c2 c3 cf0 cf1 cf2 cf3
  replace H := H.on hb
  have b2 := Below.on b1 hb
  have HA := hide hF.arn
  clear hb b1 hF
  unfold arenaA
  cases hok : newOk v y
  · have ht := hnn hok
    have hE : newE v y = 400 := by unfold newE; rw [hok]; rfl
    rw [hE]
    subst ht
    clear hE hno hnn hny HA
    unfold nilS
    go_wp2_with (go_at_call 16; go_in)
    refine (sameArena_any nilS nilS y y _ (fun _ _ => Nat.zero_le _) (fun _ _ => row_zero _ _ _) (fun _ _ => row_zero _ _ _)).mono ?_
    rintro e w3 ⟨rfl, hb⟩
    rw [sameLv_nil]
    have b3 := Below.on (b2.alloc b2.size _) hb
    go_wp2
    go_ret
    exact ⟨rfl, b3⟩
  · have ht := hno hok
    have hE : newE v y = 0 := by unfold newE; rw [hok]; rfl
    rw [hE]
    have HFt := hide (new_fit hny hok ht)
    have HT := hide ht
    have HM := hide (new_may hok ht)
    clear hE hno hnn hny ht hok
    go_wp2_with (go_at_call 16; go_in)
    replace H := Held.cons (blk_new w2 (arenaL t) 23) (H.alloc (.cells (arenaL t).toArray 23))
    go_loopw [5] (fun i wr => ∃ k : Nat, k ≤ 4 ∧ i = .int .i64 k ∧ Held wr [(w2.heap.size, arenaL t), (w.heap.size, arenaL v)] ∧ Arn wr t (newZ y) ∧ Vals wr v y ∧ Below w.heap.size w wr) (fun i _ => 4 - (intOf i).toNat)
    case atStart =>
      have bb := (Below.refl w2.heap.size w2).alloc (Nat.le_refl _) (.cells (arenaL t).toArray 23)
      exact ⟨0, Nat.zero_le _, rfl, H, HA.out.below bb (Nat.le_refl _), HV.out.below (b2.alloc b2.size _) (Nat.le_refl _), b2.alloc b2.size _⟩
    case round =>
      clear H HA HV b2
      obtain ⟨k, hk, rfl, H, hA, hV, hb⟩ := hrel
      by_cases hlt : k < 4
      · have i1 : (k : Int) < 4 := by omega
        have c1 := (H.at 0 rfl).cell k _ (arenaL_get t hlt)
        have c2 := (H.at 1 rfl).cell k _ (arenaL_get v hlt)
        have n1 := HT.out k hlt
        have hK := HFV.out.short k hlt
        rw [n1] at c1
        have HN := hide n1
        have HAA := hide hA
        have HVV := hide hV
        clear n1 hA hV
        go_wp2
        go_quiet (fail)
        go_wp2
        go_loopw [6] (fun j wr2 => ∃ m : Nat, m ≤ (v k).n ∧ j = .int .i64 m ∧ Held wr2 [(w2.heap.size, arenaL t), (w.heap.size, arenaL v)] ∧ Arn wr2 t (newZ y) ∧ Vals wr2 v y ∧ Below w.heap.size w wr2) (fun j _ => (v k).n - (intOf j).toNat)
        case atStart => exact ⟨0, Nat.zero_le _, rfl, H.drawn _, HAA.out, HVV.out, Below.drawn hb _⟩
        case round =>
          clear H HAA HVV hb c1 c2
          obtain ⟨m, hm, rfl, H, hA, hV, hb⟩ := hrel
          have c1 := (H.at 0 rfl).cell k _ (arenaL_get t hlt)
          have c2 := (H.at 1 rfl).cell k _ (arenaL_get v hlt)
          rw [HN.out] at c1
          have HAA := hide hA
          have HVV := hide hV
          clear hA hV
          by_cases hmn : m < (v k).n
          · have i2 : (m : Int) < ((v k).n : Int) := by omega
            obtain ⟨b, off, hta, _, d0, d1, d2⟩ := (HAA.out k hlt).at3 m (by rw [HN.out]; exact hmn)
            obtain ⟨b', off', hva, _, f0⟩ := HVV.out k hlt m hmn
            rw [(newZ_word y k m).1] at d0
            rw [(newZ_word y k m).2.1] at d1
            rw [(newZ_word y k m).2.2] at d2
            rw [hta] at c1
            rw [hva] at c2
            clear hta hva
            go_wp2
            go_quiet (fail)
            go_wp2
            go_roundw
            case rel =>
              repeat apply Exists.intro
              exact ⟨⟨m + 1, by omega, by go_num, H.drawn _, HAA.out, HVV.out, Below.drawn hb _⟩, rfl⟩
            case measure => simp [intOf]; omega
          · obtain rfl : m = (v k).n := by omega
            go_wp2
            go_roundw
            case rel => exact ⟨k + 1, by omega, by go_num, H, HAA.out, HVV.out, hb⟩
            case measure => simp [intOf]; omega
      · obtain rfl : k = 4 := by omega
        obtain ⟨⟨c0, c1, c2, c3⟩, cf0, cf1, cf2, cf3⟩ := (H.at 0 rfl).four
        have HAA := hide hA
        clear hA hV
        go_wp2_with fail
        refine (hMay t (newZ y) _ HFt.out HAA.out).mono ?_
        rintro e w3 ⟨rfl, hb2⟩
        rw [HM.out]
        have b3 := Below.on hb hb2
        clear c0 c1 c2 c3 cf0 cf1 cf2 cf3
        go_wp2
        go_ret
        exact ⟨rfl, b3⟩

end Go.Proofs.Ytmjclmjnkmhciaa
