/-
  The law UndoTurns.
-/
import Derived.Test.YtjjokalheloimaaGreatZhAwake13
import Derived.Test.YtjjokalheloimaaGreatZhTurnsSaid
import Derived.Test.YtjjokalheloimaaGreatZlbf
namespace Go.Proofs.YtjjokalheloimaaGreat
open Go.RowKit
set_option linter.unusedSimpArgs false
set_option linter.unusedVariables false
theorem SessOk.id {s : Nat → Sl} {x : PSess} (h : SessOk s x) : 0 ≤ lz x.num 0 ∧ lz x.num 0 ≤ 254 := by
  have h1 := h.start
  unfold startMay at h1
  simp only [Bool.and_eq_true] at h1
  exact upToV_yes h1.1
set_option maxRecDepth 100000 in
set_option maxHeartbeats 4000000 in
theorem undoTurns_at (A : MacM) (M : PMach) (i c : Int) (wake : Bool) (w : World) (h : MachIs w A M) (hc : c = if wake = true then 5 else 3) :
    Calls Tryz.prog 10 #[machA A M, .int .i64 i, .bool wake] w fun e w' => e = .returned (.bool true) ∧ Below w.heap.size w w' := by
  have hX := hide h.sess.1
  have h4 := hide h.four
  have hA := hide fun (W : World) (hb : Below w.heap.size w W) => undoAgain_any A M i c W (h.below hb)
  have hE := hide fun (W : World) (hb : Below w.heap.size w W) => undoEnd_any A M i 1 0 W (h.below hb)
  have hq : (c == 3 || c == 5) = true := by cases wake <;> (rw [hc]; rfl)
  have hAw := hide fun (W : World) => awake13_any W
  obtain ⟨V0, hV0⟩ : ∃ V0, V0 = machA A M := ⟨_, rfl⟩
  rw [← hV0]
  have HV : Hid (V0.cells = (machL A M).toArray) := by rw [hV0]; rfl
  clear hV0
  have HM := hide h
  have HS := hide (St.refl w)
  clear h
  go_enter Tryz.func10, Tryz.ntmps10
  go_wp2_with (first | ((with_reducible refine isList ?_); first | (refine st_box HS _ _ rfl rfl (machL A M) HV.out ?_; clear HS; intro W bm HS)))
  refine (hAw.out _).mono ?_
  (rintro e Wq ⟨rfl, hb⟩; have HSq := hide (HS.out.on hb); clear HS hb; replace HS := HSq; clear HSq)
  clear hAw
  cases wake
  case' false => obtain rfl : c = 3 := hc
  case' true => obtain rfl : c = 5 := hc
  all_goals
    go_upto_region 6 with fail
    go_wp2_with (first | ((with_reducible refine isList ?_); first | (refine st_loadA HS 0 rfl _ _ rfl rfl rfl (by decide +kernel) (by kernel_rfl) ?_)))
    refine (hA.out _ HS.out.below).mono ?_
    clear hA
    cases hh : hereP M i
    case false =>
      rw [againP_no (.inl hh)]
      rw [endP_no (.inl hh)] at hE
      (rintro e Wq ⟨A2, rfl, hO, hb⟩; have HSq := hide (HS.out.push hb (machI (fun k => _) A2 _) (machI_loc _ _ _) hO fun k hk => hk); generalize (fun k => _) = D2 at HSq; clear HS hb hO; replace HS := HSq; clear HSq)
      go_wp2_with (first | ((with_reducible refine isList ?_); first | (refine st_alloc HS _ rfl rfl zeroML zeroM ?_; clear HS; intro W ba HS) | (refine st_storeA HS 0 rfl _ _ _ rfl rfl rfl _ rfl rfl (by kernel_rfl) rfl ?_; clear HS; intro W HS) | (refine st_loadA HS 2 rfl _ _ rfl rfl rfl (by decide +kernel) (by kernel_rfl) ?_)))
      refine (hE.out _ HS.out.below).mono ?_
      (rintro e Wq ⟨A3, rfl, hO, hb⟩; have HSq := hide (HS.out.push hb (machI (fun k => _) A3 _) (machI_loc _ _ _) hO fun k hk => hk); generalize (fun k => _) = D3 at HSq; clear HS hb hO; replace HS := HSq; clear HSq)
      go_upto_region 8 with (first | ((with_reducible refine isList ?_); first | (refine st_alloc HS _ rfl rfl zeroML zeroM ?_; clear HS; intro W bb HS) | (refine st_storeA HS 0 rfl _ _ _ rfl rfl rfl _ rfl rfl (by kernel_rfl) rfl ?_; clear HS; intro W HS)))
      go_upto_region 9 with (go_at_call 27; refine (num_any _ _).mono ?_; rintro e w' ⟨rfl, rfl⟩)
      go_wp2_with (first | ((with_reducible refine isList ?_); first | (refine st_loadA HS 2 rfl _ _ rfl rfl rfl (by decide +kernel) (by kernel_rfl) ?_)))
      refine (sameMachine_yes A2 noMac noMach _ (MachOwn.is (show MachOwn D2 _ A2 noMach from HS.out.get 3 rfl)) (machIs_none _)).mono ?_
      (rintro e Wq ⟨rfl, hb⟩; have HSq := hide (HS.out.on hb); clear HS hb; replace HS := HSq; clear HSq)
      go_wp2_with (first | ((with_reducible refine isList ?_); first | (refine st_loadA HS 0 rfl _ _ rfl rfl rfl (by decide +kernel) (by kernel_rfl) ?_)))
      refine (sameMachine_yes A3 noMac noMach _ (MachOwn.is (show MachOwn D3 _ A3 noMach from HS.out.get 1 rfl)) (machIs_none _)).mono ?_
      (rintro e Wq ⟨rfl, hb⟩; have HSq := hide (HS.out.on hb); clear HS hb; replace HS := HSq; clear HSq)
      go_wp2
      go_ret
      exact ⟨rfl, HS.out.below⟩
    obtain ⟨hm, k, rfl, hk0⟩ := hereP_yes hh
    have h14 : (M.at k).num.length = 14 := (HM.out.sess.2.2.2 k (by have := hX.out; omega)).1
    have hid := (here_sess hm hk0).id
    rw [againP_ok hh hk0 hq]
    rw [endP_ok hh rfl rfl] at hE
    have LA := fun c => againR_loosed h4.out hk0 c
    have LE := endR_loosed h4.out hk0 1 0
    have lA : ∀ c, lz ((againR M k c).at k).num 1 = lz (M.at k).num 1 := fun c => by rw [againR_at hk0, againS_lz h14]; simp
    have lE : lz ((endR M k 1 0).at k).num 1 = lz (M.at k).num 1 := by rw [endR_at hk0, endS_lz h14]; simp
    have hT := hide fun (A2 : MacM) (c : Int) (W : World) (h1 : MachIs W A M) (h2 : MachIs W A2 (againR M k c)) => turns_yes A A2 M (againR M k c) k W h1 h2 hk0 (LA c) hid.1 hid.2 (lA c)
    have hT2 := hide fun (A2 : MacM) (W : World) (h1 : MachIs W A M) (h2 : MachIs W A2 (endR M k 1 0)) => turns_yes A A2 M (endR M k 1 0) k W h1 h2 hk0 LE hid.1 hid.2 lE
    clear LA LE lA lE hid h14 hh hm hq
    generalize endR M k 1 0 = Y at *
    replace hk0 := hide hk0
    (rintro e Wq ⟨A2, rfl, hO, hb⟩; have HSq := hide (HS.out.push hb (machI (fun k => _) A2 _) (machI_loc _ _ _) hO fun k hk => hk); generalize (fun k => _) = D2 at HSq; clear HS hb hO; replace HS := HSq; clear HSq)
    go_wp2_with (first | ((with_reducible refine isList ?_); first | (refine st_alloc HS _ rfl rfl zeroML zeroM ?_; clear HS; intro W ba HS) | (refine st_storeA HS 0 rfl _ _ _ rfl rfl rfl _ rfl rfl (by kernel_rfl) rfl ?_; clear HS; intro W HS) | (refine st_loadA HS 2 rfl _ _ rfl rfl rfl (by decide +kernel) (by kernel_rfl) ?_)))
    refine (hE.out _ HS.out.below).mono ?_
    (rintro e Wq ⟨A3, rfl, hO, hb⟩; have HSq := hide (HS.out.push hb (machI (fun k => _) A3 _) (machI_loc _ _ _) hO fun k hk => hk); generalize (fun k => _) = D3 at HSq; clear HS hb hO; replace HS := HSq; clear HSq)
    go_upto_region 8 with (first | ((with_reducible refine isList ?_); first | (refine st_alloc HS _ rfl rfl zeroML zeroM ?_; clear HS; intro W bb HS) | (refine st_storeA HS 0 rfl _ _ _ rfl rfl rfl _ rfl rfl (by kernel_rfl) rfl ?_; clear HS; intro W HS)))
    go_upto_region 10 with (go_at_call 27; refine (num_any _ _).mono ?_; rintro e w' ⟨rfl, rfl⟩)
    go_wp2_with (first | ((with_reducible refine isList ?_); first | (refine st_loadA HS 4 rfl _ _ rfl rfl rfl (by decide +kernel) (by kernel_rfl) ?_) | (refine st_loadA HS 2 rfl _ _ rfl rfl rfl (by decide +kernel) (by kernel_rfl) ?_)))
    refine (hT.out A2 _ _ (HM.out.below HS.out.below) (MachOwn.is (show MachOwn D2 _ A2 _ from HS.out.get 3 rfl))).mono ?_
    (rintro e Wq ⟨rfl, hb⟩; have HSq := hide (HS.out.on hb); clear HS hb; replace HS := HSq; clear HSq)
    go_wp2_with (first | ((with_reducible refine isList ?_); first | (refine st_loadA HS 4 rfl _ _ rfl rfl rfl (by decide +kernel) (by kernel_rfl) ?_) | (refine st_loadA HS 0 rfl _ _ rfl rfl rfl (by decide +kernel) (by kernel_rfl) ?_)))
    refine (hT2.out A3 _ (HM.out.below HS.out.below) (MachOwn.is (show MachOwn D3 _ A3 Y from HS.out.get 1 rfl))).mono ?_
    (rintro e Wq ⟨rfl, hb⟩; have HSq := hide (HS.out.on hb); clear HS hb; replace HS := HSq; clear HSq)
    go_wp2
    go_ret
    exact ⟨rfl, HS.out.below⟩
theorem undoTurns_any (A : MacM) (M : PMach) (i : Int) (wake : Bool) (w : World) (h : MachIs w A M) :
    Calls Tryz.prog 10 #[machA A M, .int .i64 i, .bool wake] w fun e w' => e = .returned (.bool true) ∧ Below w.heap.size w w' := undoTurns_at A M i _ wake w h rfl
end Go.Proofs.YtjjokalheloimaaGreat
