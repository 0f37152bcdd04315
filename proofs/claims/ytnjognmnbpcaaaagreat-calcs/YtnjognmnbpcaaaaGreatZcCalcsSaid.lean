/-
  The law Calcs.
-/
import Derived.Test.YtnjognmnbpcaaaaGreatZlaj
import Derived.Test.YtnjognmnbpcaaaaGreatZlbc
import Derived.Test.YtnjognmnbpcaaaaGreatZlbd
import Derived.Test.YtnjognmnbpcaaaaGreatZlbg
namespace Go.Proofs.YtnjognmnbpcaaaaGreat
open Go.RowKit
set_option linter.unusedSimpArgs false
set_option linter.unusedVariables false
set_option maxRecDepth 100000 in
set_option maxHeartbeats 4000000 in
theorem calcs_any (A : MacM) (M : PMach) (i : Int) (w : World) (h : MachIs w A M) :
    Calls Tryz.prog 3 #[machA A M, .int .i64 i] w fun e w' => e = .returned (.bool true) ∧ Below w.heap.size w w' := by
  have hCopy := hide fun (W : World) (hb : Below w.heap.size w W) => copyMach_any A M W (h.below hb)
  have hE1 := hide fun (B : MacM) (W : World) (hB : MachIs W B M) => calcStep_any B M i W hB
  have hE2 := hide fun (W : World) (hb : Below w.heap.size w W) => rcalc_any A M i W (h.below hb)
  have hAw := hide fun (W : World) => awake17_any W
  generalize calcP M i = S at hE1 hE2
  have q2 : (S.2 != S.2) = false := bne_self_eq_false _
  obtain ⟨V0, hV0⟩ : ∃ V0, V0 = machA A M := ⟨_, rfl⟩
  rw [← hV0]
  have HV : Hid (V0.cells = (machL A M).toArray) := by rw [hV0]; rfl
  clear hV0
  have HM := hide h
  have HS := hide (St.refl w)
  clear h
  go_enter Tryz.func3, Tryz.ntmps3
  go_wp2_with (first | ((with_reducible refine isList ?_); first | (refine st_box HS _ _ rfl rfl (machL A M) HV.out ?_; clear HS; intro W bm HS) | (refine st_loadA HS 0 rfl _ _ rfl rfl rfl (by decide +kernel) (by kernel_rfl) ?_)))
  refine (hCopy.out _ HS.out.below).mono ?_
  (rintro e Wq ⟨A1, rfl, hO, hb⟩; have HSq := hide (HS.out.push hb (machI (fun k => _) A1 _) (machI_loc _ _ _) hO fun k hk => hk); generalize (fun k => _) = D1 at HSq; clear HS hb hO; replace HS := HSq; clear HSq)
  clear hCopy
  go_wp2_with (first | ((with_reducible refine isList ?_); first | (refine st_alloc HS _ rfl rfl zeroML zeroM ?_; clear HS; intro W bx HS) | (refine st_storeA HS 0 rfl _ _ _ rfl rfl rfl _ rfl rfl (by kernel_rfl) rfl ?_; clear HS; intro W HS) | (refine st_loadA HS 0 rfl _ _ rfl rfl rfl (by decide +kernel) (by kernel_rfl) ?_)))
  replace HS : Hid (St w W [blkI bx (machL A1 M), machI D1 A1 M, blkI bm (machL A M)]) := HS
  refine (hE1.out A1 _ (MachOwn.is (show MachOwn D1 _ A1 M from HS.out.get 1 rfl))).mono ?_
  (rintro e Wq ⟨A4, rfl, hO, hb⟩; have HSq := hide (HS.out.push hb (machI (fun k => _) A4 _) (machI_loc _ _ _) hO fun k hk => hk); generalize (fun k => _) = D4 at HSq; clear HS hb hO; replace HS := HSq; clear HSq)
  clear hE1
  go_wp2_with (first | ((with_reducible refine isList ?_); first | (refine st_alloc HS _ rfl rfl zeroML zeroM ?_; clear HS; intro W bc HS) | (refine st_storeA HS 0 rfl _ _ _ rfl rfl rfl _ rfl rfl (by kernel_rfl) rfl ?_; clear HS; intro W HS) | (refine st_loadA HS 4 rfl _ _ rfl rfl rfl (by decide +kernel) (by kernel_rfl) ?_)))
  replace HS : Hid (St w W [blkI bc (machL A4 S.1), machI D4 A4 S.1, blkI bx (machL A1 M), machI D1 A1 M, blkI bm (machL A M)]) := HS
  refine (hE2.out _ HS.out.below).mono ?_
  (rintro e Wq ⟨A5, rfl, hO, hb⟩; have HSq := hide (HS.out.push hb (machI (fun k => _) A5 _) (machI_loc _ _ _) hO fun k hk => hk); generalize (fun k => _) = D5 at HSq; clear HS hb hO; replace HS := HSq; clear HSq)
  clear hE2
  go_wp2_with (first | ((with_reducible refine isList ?_); first | (refine st_alloc HS _ rfl rfl zeroML zeroM ?_; clear HS; intro W bd HS) | (refine st_storeA HS 0 rfl _ _ _ rfl rfl rfl _ rfl rfl (by kernel_rfl) rfl ?_; clear HS; intro W HS) | (refine st_loadA HS 2 rfl _ _ rfl rfl rfl (by decide +kernel) (by kernel_rfl) ?_) | (refine st_loadA HS 0 rfl _ _ rfl rfl rfl (by decide +kernel) (by kernel_rfl) ?_)))
  replace HS : Hid (St w W [blkI bd (machL A5 S.1), machI D5 A5 S.1, blkI bc (machL A4 S.1), machI D4 A4 S.1, blkI bx (machL A1 M), machI D1 A1 M, blkI bm (machL A M)]) := HS
  refine (sameMachine_yes A4 A5 S.1 _ (MachOwn.is (show MachOwn D4 _ A4 S.1 from HS.out.get 3 rfl)) (MachOwn.is (show MachOwn D5 _ A5 S.1 from HS.out.get 1 rfl))).mono ?_
  (rintro e Wq ⟨rfl, hb⟩; have HSq := hide (HS.out.on hb); clear HS hb; replace HS := HSq; clear HSq)
  go_wp2_with (first | ((with_reducible refine isList ?_); first | (refine st_loadA HS 2 rfl _ _ rfl rfl rfl (by decide +kernel) (by kernel_rfl) ?_)) | (go_at_call 12; refine (num_any _ _).mono ?_; rintro e w' ⟨rfl, rfl⟩))
  refine (spoilMach_any w _ 3 D4 A4 S.1 _ (hide rfl) HS).mono ?_
  rintro e Wq ⟨rfl, HS1⟩
  replace HS : Hid (St w Wq [blkI bd (machL A5 S.1), machI D5 A5 S.1, blkI bc (machL A4 S.1), splI D4 A4, blkI bx (machL A1 M), machI D1 A1 M, blkI bm (machL A M)]) := hide HS1
  clear HS1
  go_wp2_with (first | ((with_reducible refine isList ?_); first | (refine st_loadA HS 4 rfl _ _ rfl rfl rfl (by decide +kernel) (by kernel_rfl) ?_) | (refine st_loadA HS 6 rfl _ _ rfl rfl rfl (by decide +kernel) (by kernel_rfl) ?_)))
  refine (sameMachine_yes A1 A M _ (MachOwn.is (show MachOwn D1 _ A1 M from HS.out.get 5 rfl)) (HM.out.below HS.out.below)).mono ?_
  (rintro e Wq ⟨rfl, hb⟩; have HSq := hide (HS.out.on hb); clear HS hb; replace HS := HSq; clear HSq)
  go_wp2_with fail
  refine (hAw.out _).mono ?_
  (rintro e Wq ⟨rfl, hb⟩; have HSq := hide (HS.out.on hb); clear HS hb; replace HS := HSq; clear HSq)
  go_wp2
  go_ret
  exact ⟨rfl, HS.out.below⟩
end Go.Proofs.YtnjognmnbpcaaaaGreat
