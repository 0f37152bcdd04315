/-
  Several small texts in one: ArenaSaid, ReadsPure, MayPure, ReadsRef, GoodRef, ProgRef, ProgGetRef, InstsMem, MachMay, MachPush, WithWRef, GoodRef2, WithRef, ProgStat, InstStat, ReadsStat, ReadsProg, ArenaProgMay, AnewArena, MachFact.
-/
import Derived.Test.YtnjognmnbpcaaaaGreatZhArenaNewRef
import Derived.Test.YtnjognmnbpcaaaaGreatZlac
import Derived.Test.YtnjognmnbpcaaaaGreatZlab
import Derived.Deep.Cut
import Derived.Test.YtnjognmnbpcaaaaGreatZhInstRef
import Derived.Laws.AppendOwnNone
import Derived.OwnWalk
import Derived.Deep.AppendLies
import Derived.Deep.QuietTactic
import Derived.BigQuiet
import Derived.Test.YtnjognmnbpcaaaaGreatZhWritesRef
import Derived.RegionTactic
import Derived.BigRegion
import Derived.Test.YtnjognmnbpcaaaaGreatZlai
namespace Go.Proofs.YtnjognmnbpcaaaaGreat
open Go.RowKit
/-- No list of values is longer than what can come in; nil has none. -/
def VFit (v : Nat → Sl) : Prop := ∀ g, g < 4 → (v g).n * 8 ≤ 140737488351232 ∧ ((v g).a = none → (v g).n = 0 ∧ (v g).c = 0)
theorem VFit.short {s : Nat → Sl} (h : VFit s) : Short s := fun g hg => by have := (h g hg).1; omega
def MayC : Prop := ∀ (s : Nat → Sl) (z : Nat → Nat → Int) (w : World), Fit s → Arn w s z → Calls Tryz.prog 96 #[arenaA s] w fun e w' => e = .returned (.bool (amay s z)) ∧ Below w.heap.size w w'
/-- Four things, by their places. -/
def four {α : Type} (a b c d : α) : Nat → α
  | 0 => a
  | 1 => b
  | 2 => c
  | _ => d
section
variable {s t : Nat → Sl} {z : Nat → Nat → Int}
theorem amay_congr (ht : ∀ g, g < 4 → (t g).n = (s g).n) : amay t z = amay s z := by
  unfold amay
  simp only [lvTo, ht 0 (by omega), ht 1 (by omega), ht 2 (by omega), ht 3 (by omega)]
theorem thereV_congr (ht : ∀ g, g < 4 → (t g).n = (s g).n) (l i : Int) : thereV t l i = thereV s l i := by
  unfold thereV
  by_cases h : 0 ≤ l ∧ l < 4
  · rw [ht l.toNat (by omega)]
  · rw [decide_eq_false (fun x => h x.1), decide_eq_false (fun x => h x.1)]
end
end Go.Proofs.YtnjognmnbpcaaaaGreat
namespace Go.Proofs.YtnjognmnbpcaaaaGreat
open Go.RowKit
/-- May it be a read, alone? -/
def readMay (l i v : Int) : Bool := upToV l 3 && upToV i 3 && upToV v 65535
/-- May the k-th be, alone? -/
def aloneP (z : Nat → Int) (k : Nat) : Bool := readMay (z (k * 3)) (z (k * 3 + 1)) (z (k * 3 + 2))
/-- Is none ahead of the k-th of its word? -/
def apartP (z : Nat → Int) (k : Nat) : Bool := noneTo z (z (k * 3)) (z (k * 3 + 1)) k
/-- May they be? -/
def readsMay (n : Nat) (z : Nat → Int) : Bool := allTo (aloneP z) n && allTo (apartP z) n && decide (n ≤ 16)
theorem readsMay_get {n : Nat} {z : Nat → Int} (h : readsMay n z = true) : allTo (aloneP z) n = true ∧ allTo (apartP z) n = true ∧ n ≤ 16 := by
  simp only [readsMay, Bool.and_eq_true, decide_eq_true_eq] at h
  exact ⟨h.1.1, h.1.2, h.2⟩
theorem readsMay_mk {n : Nat} {z : Nat → Int} (h : allTo (aloneP z) n = true) (h' : allTo (apartP z) n = true) (hn : n ≤ 16) : readsMay n z = true := by rw [readsMay, h, h', decide_eq_true hn]; rfl
theorem readsMay_alone {n : Nat} {z : Nat → Int} (k : Nat) (hk : k < n) (h : aloneP z k = false) : readsMay n z = false := by rw [readsMay, allTo_no k hk h]; rfl
theorem readsMay_alones {n : Nat} {z : Nat → Int} (h : allTo (aloneP z) n = false) : readsMay n z = false := by rw [readsMay, h]; rfl
theorem readsMay_apart {n : Nat} {z : Nat → Int} (k : Nat) (hk : k < n) (h : apartP z k = false) : readsMay n z = false := by rw [readsMay, allTo_no k hk h, Bool.and_false, Bool.false_and]
theorem readsMay_long {n : Nat} {z : Nat → Int} (h : 16 < n) : readsMay n z = false := by rw [readsMay, decide_eq_false (by omega), Bool.and_false]
/-- May one more be read? -/
def withOk (n : Nat) (z : Nat → Int) (l i v : Int) : Bool := readsMay n z && readMay l i v && (!noneTo z l i n || decide (n + 1 ≤ 16))
def withE (n : Nat) (z : Nat → Int) (l i v : Int) : Int := bif withOk n z l i v then 0 else 900
/-- How many they are then. The numbers are 'putR z n l i v'. -/
def withN (n : Nat) (z : Nat → Int) (l i v : Int) : Nat := bif withOk n z l i v then (bif noneTo z l i n then n + 1 else n) else 0
theorem putR_old {z : Nat → Int} {n : Nat} {l i v : Int} {j : Nat} (h : j < n * 3) : putR z n l i v j = z j := by
  unfold putR
  rw [if_neg (by omega), if_neg (by omega), if_neg (by omega)]
theorem putR_new (z : Nat → Int) (n : Nat) (l i v : Int) : putR z n l i v (n * 3) = l ∧ putR z n l i v (n * 3 + 1) = i ∧ putR z n l i v (n * 3 + 2) = v := by
  unfold putR
  refine ⟨?_, ?_, ?_⟩
  · rw [if_neg (by omega), if_neg (by omega), if_pos rfl]
  · rw [if_neg (by omega), if_pos rfl]
  · rw [if_pos rfl]
/-- Is its word there? -/
def thereP (s : Nat → Sl) (z : Nat → Int) (k : Nat) : Bool := thereV s (z (k * 3)) (z (k * 3 + 1))
/-- Is its word of that version? -/
def sameP (y : Nat → Nat → Int) (z : Nat → Int) (k : Nat) : Bool := y (z (k * 3)).toNat ((z (k * 3 + 1)).toNat * 3 + 1) == z (k * 3 + 2)
/-- Is its word free, or that one's? -/
def freeP (y : Nat → Nat → Int) (z : Nat → Int) (d : Int) (k : Nat) : Bool := (y (z (k * 3)).toNat ((z (k * 3 + 1)).toNat * 3 + 2) == 0) || (y (z (k * 3)).toNat ((z (k * 3 + 1)).toNat * 3 + 2) == d + 1)
def goodP (y : Nat → Nat → Int) (z : Nat → Int) (d : Int) (k : Nat) : Bool := sameP y z k && freeP y z d k
/-- May both be, and is each word there? -/
def fitR (s : Nat → Sl) (y : Nat → Nat → Int) (n : Nat) (z : Nat → Int) : Bool := amay s y && readsMay n z && allTo (thereP s z) n
def goodOk (s : Nat → Sl) (y : Nat → Nat → Int) (n : Nat) (z : Nat → Int) (d : Int) : Bool := fitR s y n z && upToV d 254
def goodE (s : Nat → Sl) (y : Nat → Nat → Int) (n : Nat) (z : Nat → Int) (d : Int) : Int := bif goodOk s y n z d then 0 else 900
def goodV (s : Nat → Sl) (y : Nat → Nat → Int) (n : Nat) (z : Nat → Int) (d : Int) : Bool := goodOk s y n z d && allTo (goodP y z d) n
def chgE (s : Nat → Sl) (y : Nat → Nat → Int) (n : Nat) (z : Nat → Int) : Int := bif fitR s y n z then 0 else 900
def chgV (s : Nat → Sl) (y : Nat → Nat → Int) (n : Nat) (z : Nat → Int) : Bool := fitR s y n z && !allTo (sameP y z) n
section
variable {s t : Nat → Sl} {y : Nat → Nat → Int} {n : Nat} {z : Nat → Int} {d : Int}
theorem fitR_mk (h : amay s y = true) (h' : readsMay n z = true) (h'' : allTo (thereP s z) n = true) : fitR s y n z = true := by rw [fitR, h, h', h'']; rfl
theorem goodOk_mk (h : fitR s y n z = true) (h' : upToV d 254 = true) : goodOk s y n z d = true := by rw [goodOk, h, h']; rfl
theorem good_no (h : goodOk s y n z d = false) : goodV s y n z d = false ∧ goodE s y n z d = 900 := by
  unfold goodV goodE; rw [h]; exact ⟨rfl, rfl⟩
theorem good_yes (h : goodOk s y n z d = true) : goodV s y n z d = allTo (goodP y z d) n ∧ goodE s y n z d = 0 := by
  unfold goodV goodE; rw [h]; exact ⟨rfl, rfl⟩
theorem chg_no (h : fitR s y n z = false) : chgV s y n z = false ∧ chgE s y n z = 900 := by
  unfold chgV chgE; rw [h]; exact ⟨rfl, rfl⟩
theorem chg_yes (h : fitR s y n z = true) : chgV s y n z = !allTo (sameP y z) n ∧ chgE s y n z = 0 := by
  unfold chgV chgE; rw [h]; exact ⟨rfl, rfl⟩
theorem goodOk_fit (h : fitR s y n z = false) : goodOk s y n z d = false := by rw [goodOk, h]; rfl
theorem goodOk_id (h : upToV d 254 = false) : goodOk s y n z d = false := by rw [goodOk, h, Bool.and_false]
theorem fitR_arena (h : amay s y = false) : fitR s y n z = false := by rw [fitR, h]; rfl
theorem fitR_reads (h : readsMay n z = false) : fitR s y n z = false := by rw [fitR, h, Bool.and_false, Bool.false_and]
theorem fitR_there (h : allTo (thereP s z) n = false) : fitR s y n z = false := by rw [fitR, h, Bool.and_false]
theorem thereP_congr (ht : ∀ g, g < 4 → (t g).n = (s g).n) (k : Nat) : thereP t z k = thereP s z k := thereV_congr ht _ _
theorem fitR_congr (ht : ∀ g, g < 4 → (t g).n = (s g).n) : fitR t y n z = fitR s y n z := by
  rw [fitR, fitR, amay_congr ht, allTo_congr fun i _ => thereP_congr ht i]
theorem goodOk_congr (ht : ∀ g, g < 4 → (t g).n = (s g).n) : goodOk t y n z d = goodOk s y n z d := by rw [goodOk, goodOk, fitR_congr ht]
theorem good_congr (ht : ∀ g, g < 4 → (t g).n = (s g).n) : goodV t y n z d = goodV s y n z d ∧ goodE t y n z d = goodE s y n z d := by
  unfold goodV goodE; rw [goodOk_congr ht]; exact ⟨rfl, rfl⟩
theorem chg_congr (ht : ∀ g, g < 4 → (t g).n = (s g).n) : chgV t y n z = chgV s y n z ∧ chgE t y n z = chgE s y n z := by
  unfold chgV chgE; rw [fitR_congr ht]; exact ⟨rfl, rfl⟩
end
section
variable {z x : Nat → Int} {m n : Nat}
end
end Go.Proofs.YtnjognmnbpcaaaaGreat
namespace Go.Proofs.YtnjognmnbpcaaaaGreat
open Go.RowKit
/-- Does an instruction name a word? Is it there? -/
def namesW (z : Nat → Int) (k : Nat) : Bool := (z (k * 4) == 2) || (z (k * 4) == 3)
def instThere (s : Nat → Sl) (z : Nat → Int) (k : Nat) : Bool := !namesW z k || thereV s (z (k * 4 + 2)) (z (k * 4 + 3))
def wordsThere (s : Nat → Sl) (pn rn tn : Nat) (pz rz tz : Nat → Int) : Bool := allTo (instThere s pz) pn && (allTo (thereP s tz) tn && allTo (thereP s rz) rn)
/-- A session's registers. -/
def regsI (i : Nat → Int) (k : Nat) : Int := i (5 + k)
def sessMay (s : Nat → Sl) (i : Nat → Int) (pn rn tn : Nat) (pz rz tz : Nat → Int) : Bool :=
  (startMay (i 0) (i 1) (i 2) pn pz && wordsThere s pn rn tn pz rz tz) && ((upToV (i 3) 6 && (upToV (i 4) pn && (allUp (regsI i) 255 4 && (readsMay rn rz && writesMay tn tz)))) && (upToV (i 9) tn && (upToV (i 10) 65535 && (upToV (i 11) 65535 && (upToV (i 12) 5 && upToV (i 13) 255)))))
end Go.Proofs.YtnjognmnbpcaaaaGreat
namespace Go.Proofs.YtnjognmnbpcaaaaGreat
open Go.RowKit
set_option linter.unusedSimpArgs false
set_option linter.unusedVariables false
set_option maxRecDepth 10000 in
set_option maxHeartbeats 2000000 in
theorem rreadsMay_any (a : Option Addr) (n c : Nat) (z : Nat → Int) (w : World) (hn : n ≤ 1152921504606846976) (h : Row w a (n * 3) fun i => .int .i64 (z i)) :
    Calls Tryz.prog 106 #[.slice a n c] w fun e w' => e = .returned (.bool (readsMay n z)) ∧ Below w.heap.size w w' := by
  go_enter Tryz.func106, Tryz.ntmps106
  go_wp2
  go_loopw [3] (fun i wr => ∃ k : Nat, k ≤ n ∧ i = .int .i64 k ∧ Hid (allTo (aloneP z) k = true) ∧ Hid (allTo (apartP z) k = true) ∧ (Row wr a (n * 3) fun i => .int .i64 (z i)) ∧ Below w.heap.size w wr) (fun i _ => n - (intOf i).toNat)
  case atStart => exact ⟨0, Nat.zero_le _, rfl, rfl, rfl, h, Below.refl _ _⟩
  case round =>
    obtain ⟨k, hk, rfl, HS, HP, R, hb⟩ := hrel
    clear h
    have HR := hide R
    have HB := hide hb
    clear R hb
    by_cases hlt : k < n
    · have i1 : (k : Int) < (n : Int) := by omega
      obtain ⟨b, off, hsa, hbl, d0, d1, d2⟩ := HR.out.at3 k hlt
      subst hsa
      have C1 := fun W => flip (rwordName_any (z (k * 3)) (z (k * 3 + 1)) W)
      have C2 := fun W => flip (rclock_any (z (k * 3 + 2)) W)
      cases hw : (upToV (z (k * 3)) 3 && upToV (z (k * 3 + 1)) 3)
      · rw [hw] at C1
        have H1 := hide C1
        have HN : Hid (readsMay n z = false) := readsMay_alone k hlt (by unfold aloneP readMay; rw [hw]; rfl)
        clear C1 C2 hw
        go_wp2
        go_quiet ((go_at_call 134; exact Calls.quiet_of_same (H1.out _)))
        go_wp2
        go_ret
        exact ⟨ret_bool HN.out.symm, Below.drawn HB.out _⟩
      · rw [hw] at C1
        have H1 := hide C1
        cases hv : upToV (z (k * 3 + 2)) 65535
        · rw [hv] at C2
          have H2 := hide C2
          have HN : Hid (readsMay n z = false) := readsMay_alone k hlt (by unfold aloneP readMay; rw [hw, hv]; rfl)
          clear C1 C2 hw hv
          go_wp2
          go_quiet ((first | (go_at_call 134; exact Calls.quiet_of_same (H1.out _)) | (go_at_call 76; exact Calls.quiet_of_same (H2.out _))))
          go_wp2
          go_ret
          exact ⟨ret_bool HN.out.symm, Below.drawn HB.out _⟩
        · rw [hv] at C2
          have H2 := hide C2
          have HA : Hid (allTo (aloneP z) (k + 1) = true) := by
            show allTo (aloneP z) (k + 1) = true
            rw [allTo, HS.out]
            unfold aloneP readMay
            rw [hw, hv]
            rfl
          clear C1 C2 hw hv
          go_wp2
          go_quiet ((first | (go_at_call 134; exact Calls.quiet_of_same (H1.out _)) | (go_at_call 76; exact Calls.quiet_of_same (H2.out _))))
          replace HR : Hid (Row (wr.drewN nq) (some ⟨b, off, none⟩) (n * 3) fun i => .int .i64 (z i)) := HR.out.drewN nq
          replace HB := hide (Below.drawn HB.out nq)
          clear H1 H2 d0 d1 d2 hbl HS
          generalize wr.drewN nq = W at *
          go_wp2
          go_loopw [4] (fun j wr => ∃ m : Nat, m ≤ k ∧ j = .int .i64 m ∧ Hid (noneTo z (z (k * 3)) (z (k * 3 + 1)) m = true) ∧ (Row wr (some ⟨b, off, none⟩) (n * 3) fun i => .int .i64 (z i)) ∧ Below w.heap.size w wr) (fun j _ => k - (intOf j).toNat)
          case atStart => exact ⟨0, Nat.zero_le _, rfl, rfl, HR.out, HB.out⟩
          case round =>
            rename_i wi
            obtain ⟨m, hm, rfl, HM, R, hb⟩ := hrel
            clear HR HB
            have HR := hide R
            have HB := hide hb
            clear R hb
            by_cases hmk : m < k
            · have i2 : (m : Int) < (k : Int) := by omega
              have i3 : (m : Int) < (n : Int) := by omega
              obtain ⟨_, _, hsa, hbl, d0, d1, d2⟩ := HR.out.at3 k hlt
              cases hsa
              obtain ⟨_, _, hsa, _, e0, e1, e2⟩ := HR.out.at3 m (by omega)
              cases hsa
              by_cases v0 : z (m * 3) = z (k * 3)
              · by_cases v1 : z (m * 3 + 1) = z (k * 3 + 1)
                · have HN : Hid (readsMay n z = false) := readsMay_apart k hlt (allTo_no m hmk (by unfold isWord; rw [v0, v1]; simp))
                  rw [v0] at e0
                  rw [v1] at e1
                  clear v0 v1
                  go_wp2
                  go_quiet (fail)
                  go_wp2
                  go_ret
                  exact ⟨ret_bool HN.out.symm, Below.drawn HB.out _⟩
                · have HN : Hid (noneTo z (z (k * 3)) (z (k * 3 + 1)) (m + 1) = true) := by
                    show allTo _ (m + 1) = true
                    rw [allTo, show allTo _ m = true from HM.out]
                    unfold isWord
                    rw [beq_eq_false_iff_ne.2 v1, Bool.and_false]
                    rfl
                  have dv : decide (z (m * 3 + 1) = z (k * 3 + 1)) = false := decide_eq_false v1
                  rw [v0] at e0
                  clear v0
                  go_wp2
                  go_quiet (fail)
                  go_wp2
                  go_roundw
                  case rel =>
                    first
                      | exact ⟨m + 1, by omega, by go_num, HN, HR.out.drewN _, Below.drawn HB.out _⟩
                      | (repeat apply Exists.intro
                         exact ⟨⟨m + 1, by omega, by go_num, HN, HR.out.drewN _, Below.drawn HB.out _⟩, rfl⟩)
                  case measure => simp [intOf]; omega
              · have HN : Hid (noneTo z (z (k * 3)) (z (k * 3 + 1)) (m + 1) = true) := by
                  show allTo _ (m + 1) = true
                  rw [allTo, show allTo _ m = true from HM.out]
                  unfold isWord
                  rw [beq_eq_false_iff_ne.2 v0, Bool.false_and]
                  rfl
                have dv : decide (z (m * 3) = z (k * 3)) = false := decide_eq_false v0
                go_wp2
                go_quiet (fail)
                go_wp2
                go_roundw
                case rel =>
                  first
                    | exact ⟨m + 1, by omega, by go_num, HN, HR.out.drewN _, Below.drawn HB.out _⟩
                    | (repeat apply Exists.intro
                       exact ⟨⟨m + 1, by omega, by go_num, HN, HR.out.drewN _, Below.drawn HB.out _⟩, rfl⟩)
                case measure => simp [intOf]; omega
            · obtain rfl : m = k := by omega
              have HN : Hid (allTo (apartP z) (m + 1) = true) := by
                show allTo (apartP z) (m + 1) = true
                rw [allTo, HP.out]
                exact HM.out
              go_wp2
              go_roundw
              case rel =>
                first
                  | exact ⟨m + 1, by omega, by go_num, HA, HN, HR.out, HB.out⟩
                  | (repeat apply Exists.intro
                     exact ⟨⟨m + 1, by omega, by go_num, HA, HN, HR.out, HB.out⟩, rfl⟩)
              case measure => simp [intOf]; omega
    · obtain rfl : k = n := by omega
      go_wp2
      go_ret
      refine ⟨ret_bool ?_, HB.out⟩
      rw [readsMay, HS.out, HP.out]
      simp only [Bool.true_and]
      exact decide_eq_decide.2 (by omega)
end Go.Proofs.YtnjognmnbpcaaaaGreat
namespace Go.Proofs.YtnjognmnbpcaaaaGreat
open Go.RowKit
set_option linter.unusedSimpArgs false
set_option linter.unusedVariables false
set_option maxRecDepth 10000 in
set_option maxHeartbeats 2000000 in
theorem rreadsThere_any (s : Nat → Sl) (a : Option Addr) (n c : Nat) (z : Nat → Int) (w : World) (hn : n ≤ 1152921504606846976) (h : Row w a (n * 3) fun i => .int .i64 (z i)) :
    Calls Tryz.prog 115 #[arenaA s, .slice a n c] w fun e w' => e = .returned (.bool (allTo (thereP s z) n)) ∧ Below w.heap.size w w' := by
  have CA := hide fun l i w => rthere_any s l i w
  unfold arenaA at *
  go_enter Tryz.func115, Tryz.ntmps115
  go_wp2
  go_loopw [5] (fun i wr => ∃ k : Nat, k ≤ n ∧ i = .int .i64 k ∧ Hid (allTo (thereP s z) k = true) ∧ Blk wr w.heap.size (arenaL s) ∧ (Row wr a (n * 3) fun i => .int .i64 (z i)) ∧ Below w.heap.size w wr) (fun i _ => n - (intOf i).toNat)
  case atStart =>
    have b0 : Below w.heap.size w (w.alloc (.cells #[.slice (s 0).a (s 0).n (s 0).c, .slice (s 1).a (s 1).n (s 1).c, .slice (s 2).a (s 2).n (s 2).c, .slice (s 3).a (s 3).n (s 3).c] 23)) := by go_grown
    exact ⟨0, Nat.zero_le _, rfl, rfl, blk_new w (arenaL s) _, h.below b0 (Nat.le_refl _), b0⟩
  case round =>
    obtain ⟨k, hk, rfl, HS, B, R, hb⟩ := hrel
    clear h
    by_cases hlt : k < n
    · have i1 : (k : Int) < (n : Int) := by omega
      obtain ⟨b, off, rfl, hbl, d0, d1, _⟩ := R.kin3 k hlt
      obtain ⟨p0, p1, p2, p3⟩ := B.kin4
      have kne : Nonempty (Kin wr) := kin_any wr
      have K : ∀ u : Kin wr, _ := fun u => Calls.kin_of (u := u) (CA.out (z (k * 3)) (z (k * 3 + 1)) _)
      have HR := hide R
      have HB := hide hb
      have HBl := hide B
      cases ht : thereP s z k
      · unfold thereP at ht
        rw [ht] at K
        have HK := hide K
        have HN : Hid (allTo (thereP s z) n = false) := allTo_no k hlt ht
        clear K ht R hb B CA
        go_upto_region 4 with (fail)
        refine wp_region_kin (by kernel_rfl) (by kernel_rfl) ?_
        repeat (go_big_quiet_step ((go_at_call 133; exact HK.out _)))
        refine wpQuiet_nil ?_
        rintro _ ⟨u, rfl⟩
        have b2 : Below w.heap.size w u.at_ := HB.out.trans (u.below.mono HB.out.size)
        clear d0 d1 p0 p1 p2 p3 HK kne HR HB HBl
        generalize u.at_ = V at *
        clear u
        go_wp2
        go_ret
        exact ⟨ret_bool HN.out.symm, b2⟩
      · unfold thereP at ht
        rw [ht] at K
        have HK := hide K
        have HN : Hid (allTo (thereP s z) (k + 1) = true) := by
          show allTo (thereP s z) (k + 1) = true
          rw [allTo, HS.out]
          exact ht
        clear K ht R hb B CA
        go_upto_region 4 with (fail)
        refine wp_region_kin (by kernel_rfl) (by kernel_rfl) ?_
        repeat (go_big_quiet_step ((go_at_call 133; exact HK.out _)))
        refine wpQuiet_nil ?_
        rintro _ ⟨u, rfl⟩
        have b2 : Below w.heap.size w u.at_ := HB.out.trans (u.below.mono HB.out.size)
        have R2 := hide (HR.out.below u.below (Nat.le_refl _))
        have B2 := hide (HBl.out.kin u)
        clear d0 d1 p0 p1 p2 p3 HK kne HR HB HBl
        generalize u.at_ = V at *
        clear u
        go_wp2
        go_roundw
        case rel =>
          first
            | exact ⟨k + 1, by omega, by go_num, HN, B2.out, R2.out, b2⟩
            | (repeat apply Exists.intro
               exact ⟨⟨k + 1, by omega, by go_num, HN, B2.out, R2.out, b2⟩, rfl⟩)
        case measure => simp [intOf]; omega
    · obtain rfl : k = n := by omega
      go_wp2
      go_ret
      exact ⟨ret_bool HS.out.symm, hb⟩
/-- The word of a read that is there. -/
theorem there_word {s : Nat → Sl} {y : Nat → Nat → Int} {z : Nat → Int} {W : World} {k : Nat} (ht : thereP s z k = true) (hA : Arn W s y) :
    ∃ (g j b off : Nat), z (k * 3) = (g : Int) ∧ z (k * 3 + 1) = (j : Int) ∧ g < 4 ∧ j < (s g).n ∧ (s g).a = some ⟨b, off, none⟩ ∧ b < W.heap.size ∧ W.cell? ⟨b, off + j * 3, none⟩ = some (.int .i64 (y g (j * 3))) ∧ W.cell? ⟨b, off + j * 3 + 1, none⟩ = some (.int .i64 (y g (j * 3 + 1))) ∧ W.cell? ⟨b, off + j * 3 + 2, none⟩ = some (.int .i64 (y g (j * 3 + 2))) ∧
      sameP y z k = (y g (j * 3 + 1) == z (k * 3 + 2)) ∧ ∀ d, freeP y z d k = ((y g (j * 3 + 2) == 0) || (y g (j * 3 + 2) == d + 1)) := by
  obtain ⟨g, j, hg, hj, hg4, hjn⟩ := thereV_get ht
  obtain ⟨b, off, e, hb, c0, c1, c2⟩ := (hA g hg4).at3 j hjn
  refine ⟨g, j, b, off, hg, hj, hg4, hjn, e, hb, c0, c1, c2, ?_, fun d => ?_⟩
  · unfold sameP
    rw [hg, hj, Int.toNat_natCast, Int.toNat_natCast]
  · unfold freeP
    rw [hg, hj, Int.toNat_natCast, Int.toNat_natCast]
set_option maxRecDepth 10000 in
set_option maxHeartbeats 4000000 in
theorem rchanged_any (s : Nat → Sl) (y : Nat → Nat → Int) (a : Option Addr) (n c : Nat) (z : Nat → Int) (w : World) (hf : Short s) (hA : Arn w s y) (hn : n ≤ 1152921504606846976) (h : Row w a (n * 3) fun i => .int .i64 (z i)) :
    Calls Tryz.prog 95 #[arenaA s, .slice a n c] w fun e w' => e = .returned (.tuple #[.bool (chgV s y n z), .int .i64 (chgE s y n z)]) ∧ Below w.heap.size w w' := by
  have CA := hide fun w h => rarenaMay_any s y w hf h
  have CR := hide fun w h => rreadsMay_any a n c z w hn h
  have CT := hide fun w h => rreadsThere_any s a n c z w hn h
  have HA := hide hA
  have b0 : Below w.heap.size w (w.alloc (.cells (arenaL s).toArray 23)) := by go_grown
  have B := blk_new w (arenaL s) 23
  have HR := hide (h.below b0 (Nat.le_refl _))
  have HA0 := hide (hA.below b0 (Nat.le_refl _))
  clear h hA hf
  unfold arenaA at *
  cases ha : amay s y
  · obtain ⟨e1, e2⟩ := chg_no (fitR_arena (n := n) (z := z) ha)
    rw [e1, e2]
    clear e1 e2
    go_enter Tryz.func95, Tryz.ntmps95
    go_wp2_with fail
    refine (CA.out _ HA0.out).mono ?_
    rintro e w1 ⟨rfl, hb⟩
    rw [ha]
    have b1 := Below.on b0 hb
    clear hb
    go_wp2
    go_ret2
    exact ⟨rfl, b1⟩
  · go_enter Tryz.func95, Tryz.ntmps95
    go_wp2_with fail
    refine (CA.out _ HA0.out).mono ?_
    rintro e w1 ⟨rfl, hb⟩
    rw [ha]
    have b1 := Below.on b0 hb
    have R1 := hide (HR.out.below hb (Nat.le_refl _))
    have B1 := hide (B.on hb)
    clear hb b0 HR HA0 B CA
    go_wp2_with fail
    refine (CR.out _ R1.out).mono ?_
    rintro e w2 ⟨rfl, hb⟩
    have b2 := Below.on b1 hb
    have R2 := hide (R1.out.below hb (Nat.le_refl _))
    have B2 := B1.out.on hb
    clear hb b1 R1 B1 CR
    cases hr : readsMay n z
    · obtain ⟨e1, e2⟩ := chg_no (fitR_reads (s := s) (y := y) hr)
      have HE := hide (And.intro e1 e2)
      clear B2 e1 e2
      go_wp2
      go_ret2
      exact ⟨ret_bool_int HE.out.1.symm HE.out.2.symm, b2⟩
    · obtain ⟨⟨c0, c1, c2, c3⟩, f0, f1, f2, f3⟩ := B2.four
      go_wp2_with fail
      refine (CT.out _ R2.out).mono ?_
      rintro e w3 ⟨rfl, hb⟩
      have b3 := Below.on b2 hb
      have R3 := hide (R2.out.below hb (Nat.le_refl _))
      have B3 := B2.on hb
      clear hb b2 R2 B2 CT c0 c1 c2 c3 f0 f1 f2 f3
      cases ht : allTo (thereP s z) n
      · obtain ⟨e1, e2⟩ := chg_no (fitR_there (s := s) (y := y) ht)
        have HE := hide (And.intro e1 e2)
        clear B3 e1 e2
        go_wp2
        go_ret2
        exact ⟨ret_bool_int HE.out.1.symm HE.out.2.symm, b3⟩
      · obtain ⟨e1, e2⟩ := chg_yes (fitR_mk ha hr ht)
        have HE := hide (And.intro e1 e2)
        have HT := hide ht
        clear e1 e2 ht hr ha
        go_wp2
        go_loopw [6] (fun i wr => ∃ k : Nat, k ≤ n ∧ i = .int .i64 k ∧ Hid (allTo (sameP y z) k = true) ∧ Blk wr w.heap.size (arenaL s) ∧ (Row wr a (n * 3) fun i => .int .i64 (z i)) ∧ Below w.heap.size w wr) (fun i _ => n - (intOf i).toNat)
        case atStart => exact ⟨0, Nat.zero_le _, rfl, rfl, B3, R3.out, b3⟩
        case round =>
          clear B3 R3 b3
          obtain ⟨k, hk, rfl, HS, B, R, hb⟩ := hrel
          by_cases hlt : k < n
          · have i1 : (k : Int) < (n : Int) := by omega
            obtain ⟨b, off, rfl, hbl, d0, d1, d2⟩ := R.at3 k hlt
            obtain ⟨g, j, b', off', hg, hj, hg4, hjn, hsa, hb', q0, q1, q2, hsm, _⟩ := there_word (allTo_get HT.out k hlt) (HA.out.below hb (Nat.le_refl _))
            have c1 := B.cell g _ (arenaL_get s hg4)
            rw [hsa] at c1
            rw [hg] at d0
            rw [hj] at d1
            have i2 : (g : Int) < 4 := by omega
            have i3 : (j : Int) < ((s g).n : Int) := by omega
            have HR := hide R
            have HB := hide hb
            have HBl := hide B
            cases hv : (y g (j * 3 + 1) == z (k * 3 + 2))
            · have hv2 : (y g (j * 3 + 1) != z (k * 3 + 2)) = true := by rw [bne, hv]; rfl
              have hv3 : ¬ y g (j * 3 + 1) = z (k * 3 + 2) := by simpa using hv
              have HN : Hid (allTo (sameP y z) n = false) := allTo_no k hlt (by rw [hsm, hv])
              clear R hb B hsa hg hj hsm hv
              go_wp2
              go_quiet (fail)
              go_wp2
              go_ret2
              exact ⟨ret_bool_int (by rw [HE.out.1, HN.out]; rfl) HE.out.2.symm, Below.drawn HB.out _⟩
            · have hv2 : (y g (j * 3 + 1) != z (k * 3 + 2)) = false := by rw [bne, hv]; rfl
              have hv3 : y g (j * 3 + 1) = z (k * 3 + 2) := by simpa using hv
              have HN : Hid (allTo (sameP y z) (k + 1) = true) := by
                show allTo (sameP y z) (k + 1) = true
                rw [allTo, HS.out, hsm, hv]
                rfl
              clear R hb B hsa hg hj hsm hv
              go_wp2
              go_quiet (fail)
              go_wp2
              go_roundw
              case rel =>
                first
                  | exact ⟨k + 1, by omega, by go_num, HN, HBl.out.drawn _, HR.out.drewN _, Below.drawn HB.out _⟩
                  | (repeat apply Exists.intro
                     exact ⟨⟨k + 1, by omega, by go_num, HN, HBl.out.drawn _, HR.out.drewN _, Below.drawn HB.out _⟩, rfl⟩)
              case measure => simp [intOf]; omega
          · obtain rfl : k = n := by omega
            go_wp2
            go_ret2
            exact ⟨ret_bool_int (by rw [HE.out.1, HS.out]; rfl) HE.out.2.symm, hb⟩
end Go.Proofs.YtnjognmnbpcaaaaGreat
namespace Go.Proofs.YtnjognmnbpcaaaaGreat
open Go.RowKit
set_option linter.unusedSimpArgs false
theorem quadA_at (z : Nat → Int) (k : Nat) : quadA (instAt z k) = .agg #[.int .i64 (z (k * 4)), .int .i64 (z (k * 4 + 1)), .int .i64 (z (k * 4 + 2)), .int .i64 (z (k * 4 + 3))] := rfl
set_option maxRecDepth 10000 in
set_option maxHeartbeats 2000000 in
theorem rprogMay_any (a : Option Addr) (n c : Nat) (z : Nat → Int) (w : World) (hn : n ≤ 1152921504606846976) (h : Row w a (n * 4) fun i => .int .i64 (z i)) :
    Calls Tryz.prog 110 #[.slice a n c] w fun e w' => e = .returned (.bool (progMay n z)) ∧ Below w.heap.size w w' := by
  go_enter Tryz.func110, Tryz.ntmps110
  go_wp2
  go_loopw [3] (fun i wr => ∃ k : Nat, k ≤ n ∧ i = .int .i64 k ∧ Hid (progTo z n k = true) ∧ Below w.heap.size w wr) (fun i _ => n - (intOf i).toNat)
  case atStart => exact ⟨0, Nat.zero_le _, rfl, rfl, by go_grown⟩
  case round =>
    obtain ⟨k, hk, rfl, HS, hb⟩ := hrel
    by_cases hlt : k < n
    · have i1 : (k : Int) < (n : Int) := by omega
      obtain ⟨b, off, hsa, hbl, d0, d1, d2, d3⟩ := (h.below hb (Nat.le_refl _)).at4 k hlt
      subst hsa
      have C := hide fun w => rinstMay_any (instAt z k) w
      rw [quadA_at] at C
      cases hm : instMay (instAt z k)
      · rw [hm] at C
        go_wp2_with fail
        refine (C.out _).mono ?_
        rintro e w1 ⟨rfl, hb1⟩
        have b1 : Below w.heap.size w w1 := Below.on hb hb1
        clear hb1 d0 d1 d2 d3 C
        go_wp2
        go_ret
        exact ⟨ret_bool (progMay_no k hlt (by rw [hm]; rfl)).symm, b1⟩
      · rw [hm] at C
        by_cases h4 : z (k * 4) = 4
        · rw [h4] at C d0
          by_cases hj : z (k * 4 + 2) ≤ (k : Int)
          · go_wp2_with fail
            refine (C.out _).mono ?_
            rintro e w1 ⟨rfl, hb1⟩
            have b1 : Below w.heap.size w w1 := Below.on hb hb1
            obtain ⟨_, _, e, _, p0, p1, p2, p3⟩ := (h.below b1 (Nat.le_refl _)).at4 k hlt
            cases e
            rw [h4] at p0
            clear hb1 d0 d1 d2 d3 C
            go_wp2
            go_ret
            exact ⟨ret_bool (progMay_no k hlt (by unfold badJump; rw [hm, h4, decide_eq_true hj]; rfl)).symm, b1⟩
          · by_cases hj2 : (n : Int) < z (k * 4 + 2)
            · go_wp2_with fail
              refine (C.out _).mono ?_
              rintro e w1 ⟨rfl, hb1⟩
              have b1 : Below w.heap.size w w1 := Below.on hb hb1
              obtain ⟨_, _, e, _, p0, p1, p2, p3⟩ := (h.below b1 (Nat.le_refl _)).at4 k hlt
              cases e
              rw [h4] at p0
              clear hb1 d0 d1 d2 d3 C
              go_wp2
              go_ret
              exact ⟨ret_bool (progMay_no k hlt (by unfold badJump; rw [hm, h4, decide_eq_true hj2]; simp)).symm, b1⟩
            · have HN : Hid (progTo z n (k + 1) = true) := by
                show progTo z n (k + 1) = true
                rw [progTo, HS.out, hm]
                unfold badJump
                rw [h4, decide_eq_false hj, decide_eq_false hj2]
                rfl
              go_wp2_with fail
              refine (C.out _).mono ?_
              rintro e w1 ⟨rfl, hb1⟩
              have b1 : Below w.heap.size w w1 := Below.on hb hb1
              obtain ⟨_, _, e, _, p0, p1, p2, p3⟩ := (h.below b1 (Nat.le_refl _)).at4 k hlt
              cases e
              rw [h4] at p0
              clear hb1 d0 d1 d2 d3 C
              go_wp2
              go_roundw
              case rel => exact ⟨k + 1, by omega, by go_num, HN, b1⟩
              case measure => simp [intOf]; omega
        · have HN : Hid (progTo z n (k + 1) = true) := by
            show progTo z n (k + 1) = true
            rw [progTo, HS.out, hm]
            unfold badJump
            rw [beq_eq_false_iff_ne.2 h4]
            rfl
          go_wp2_with fail
          refine (C.out _).mono ?_
          rintro e w1 ⟨rfl, hb1⟩
          have b1 : Below w.heap.size w w1 := Below.on hb hb1
          obtain ⟨_, _, e, _, p0, p1, p2, p3⟩ := (h.below b1 (Nat.le_refl _)).at4 k hlt
          cases e
          clear hb1 d0 d1 d2 d3 C
          go_wp2
          go_roundw
          case rel => exact ⟨k + 1, by omega, by go_num, HN, b1⟩
          case measure => simp [intOf]; omega
    · obtain rfl : k = n := by omega
      go_wp2
      go_ret
      refine ⟨ret_bool ?_, hb⟩
      rw [progMay, HS.out, Bool.true_and]
      exact decide_eq_decide.2 (by omega)
end Go.Proofs.YtnjognmnbpcaaaaGreat
namespace Go.Proofs.YtnjognmnbpcaaaaGreat
open Go.RowKit
set_option linter.unusedSimpArgs false
theorem Tryz.infoInst : (Tryz.prog.info? 47).map (fun i => (i.zero, i.size, i.bytes)) = some (some (.agg #[.int .i64 0, .int .i64 0, .int .i64 0, .int .i64 0]), 4, 32) := by kernel_rfl
end Go.Proofs.YtnjognmnbpcaaaaGreat
namespace Go.Proofs.YtnjognmnbpcaaaaGreat
open Go.RowKit
set_option linter.unusedSimpArgs false
set_option maxHeartbeats 1000000 in
theorem sameInsts_any (a a' : Option Addr) (n c n' c' : Nat) (z y : Nat → Int) (w : World) (hn : n ≤ 1152921504606846976) (h : Row w a (n * 4) fun i => .int .i64 (z i)) (h' : Row w a' (n' * 4) fun i => .int .i64 (y i)) :
    Calls Tryz.prog 54 #[.slice a n c, .slice a' n' c'] w fun e w' => e = .returned (.bool (decide (n = n') && eqTo z y (n * 4))) ∧ ∃ q, w' = w.drewN q := by
  by_cases hnn : n = n'
  · subst hnn
    have hne : ((n : Int) != (n : Int)) = false := by simp
    go_enter Tryz.func54, Tryz.ntmps54
    go_wp2
    go_loopw [5] (fun i wr => ∃ k : Nat, k ≤ n ∧ i = .int .i64 k ∧ eqTo z y (k * 4) = true ∧ ∃ q, wr = w.drewN q) (fun i _ => n - (intOf i).toNat)
    case atStart => exact ⟨0, Nat.zero_le _, rfl, rfl, 0, rfl⟩
    case round =>
      obtain ⟨k, hk, rfl, hs, hq⟩ := hrel
      have HQ : Hid (∃ q, wr = w.drewN q) := hq
      replace h : Row wr a (n * 4) fun i => .int .i64 (z i) := by obtain ⟨q, rfl⟩ := hq; exact h
      replace h' : Row wr a' (n * 4) fun i => .int .i64 (y i) := by obtain ⟨q, rfl⟩ := hq; exact h'
      have HS : Hid (eqTo z y (k * 4) = true) := hs
      clear hs hq
      by_cases hlt : k < n
      · obtain ⟨b, off, rfl, hb, c0, c1, c2, c3⟩ := h.at4 k hlt
        obtain ⟨b', off', rfl, hb', d0, d1, d2, d3⟩ := h'.at4 k hlt
        clear h h'
        have i1 : (k : Int) < (n : Int) := by omega
        by_cases v0 : z (k * 4) = y (k * 4)
        · by_cases v1 : z (k * 4 + 1) = y (k * 4 + 1)
          · by_cases v2 : z (k * 4 + 2) = y (k * 4 + 2)
            · by_cases v3 : z (k * 4 + 3) = y (k * 4 + 3)
              · have HE : Hid (eqTo z y ((k + 1) * 4) = true) := by
                    show eqTo z y ((k + 1) * 4) = true
                    rw [show (k + 1) * 4 = k * 4 + 1 + 1 + 1 + 1 by omega, eqTo, eqTo, eqTo, eqTo, HS.out, v0, v1, v2, v3]
                    simp
                go_wp2
                go_quiet (fail)
                go_wp2
                go_roundw
                case rel => exact ⟨k + 1, by omega, by go_num, HE.out, drewN_on HQ.out _⟩
                case measure => simp [intOf]; omega
              · have HV : Hid (z (k * 4 + 3) ≠ y (k * 4 + 3)) := v3
                go_wp2
                go_quiet (fail)
                go_wp2
                go_ret
                exact ⟨ret_bool (by simp [eqTo_no (n := n * 4) (k * 4 + 3) (by omega) HV.out]), drewN_on HQ.out _⟩
            · have HV : Hid (z (k * 4 + 2) ≠ y (k * 4 + 2)) := v2
              go_wp2
              go_quiet (fail)
              go_wp2
              go_ret
              exact ⟨ret_bool (by simp [eqTo_no (n := n * 4) (k * 4 + 2) (by omega) HV.out]), drewN_on HQ.out _⟩
          · have HV : Hid (z (k * 4 + 1) ≠ y (k * 4 + 1)) := v1
            go_wp2
            go_quiet (fail)
            go_wp2
            go_ret
            exact ⟨ret_bool (by simp [eqTo_no (n := n * 4) (k * 4 + 1) (by omega) HV.out]), drewN_on HQ.out _⟩
        · have HV : Hid (z (k * 4) ≠ y (k * 4)) := v0
          go_wp2
          go_quiet (fail)
          go_wp2
          go_ret
          exact ⟨ret_bool (by simp [eqTo_no (n := n * 4) (k * 4) (by omega) HV.out]), drewN_on HQ.out _⟩
      · obtain rfl : k = n := by omega
        clear h h'
        go_wp2
        go_ret
        exact ⟨ret_bool (by simp [HS.out]), HQ.out⟩
  · have hne : ((n : Int) != (n' : Int)) = true := by simp; omega
    have HN : Hid (n ≠ n') := hnn
    clear hnn h h'
    go_enter Tryz.func54, Tryz.ntmps54
    go_wp2
    go_ret
    exact ⟨ret_bool (by simp [HN.out]), 0, rfl⟩
end Go.Proofs.YtnjognmnbpcaaaaGreat
namespace Go.Proofs.YtnjognmnbpcaaaaGreat
open Go.RowKit
/-- How many words a level has. -/
def PMach.lens (M : PMach) (g : Nat) : Sl := ⟨none, (M.lv g).length / 3, 0⟩
def PMach.wz (M : PMach) (g : Nat) : Nat → Int := lz (M.lv g)
def PSess.pn (x : PSess) : Nat := x.prog.length / 4
def PSess.rn (x : PSess) : Nat := x.reads.length / 3
def PSess.tn (x : PSess) : Nat := x.writes.length / 3
def sessMayP (s : Nat → Sl) (x : PSess) : Bool := sessMay s (lz x.num) x.pn x.rn x.tn (lz x.prog) (lz x.reads) (lz x.writes)
def riseP (M : PMach) (k : Nat) : Bool := decide (k = 0) || decide (lz (M.at (k - 1)).num 0 < lz (M.at k).num 0)
def sessOk (M : PMach) (k : Nat) : Bool := sessMayP M.lens (M.at k) && riseP M k
def PMach.tn (M : PMach) : Nat := M.trace.length / 4
def labOk (M : PMach) (k : Nat) : Bool := upToV (lz M.trace (k * 4 + 1)) 3
def machMay (M : PMach) : Bool :=
  (amay M.lens M.wz && (upToV M.ceil 65535 && (decide (M.sess.length ≤ 4) && decide (M.tn ≤ 512)))) && (allUp (lz M.clocks) M.ceil 4 && (allTo (sessOk M) M.sess.length && allTo (labOk M) M.tn))
/-- They hang on how many there are, not on where they lie. -/
theorem lvTo_lens {s s' : Nat → Sl} {z : Nat → Nat → Int} : ∀ {k : Nat}, (∀ g, g < k → (s g).n = (s' g).n) → lvTo s z k = lvTo s' z k
  | 0, _ => rfl
  | k + 1, h => by rw [lvTo, lvTo, lvTo_lens fun g hg => h g (by omega), h k (by omega)]
theorem amay_lens {s s' : Nat → Sl} {z : Nat → Nat → Int} (h : ∀ g, g < 4 → (s g).n = (s' g).n) : amay s z = amay s' z := lvTo_lens h
theorem thereV_lens {s s' : Nat → Sl} {l i : Int} (h : ∀ g, g < 4 → (s g).n = (s' g).n) : thereV s l i = thereV s' l i := by
  unfold thereV
  by_cases hl : 0 ≤ l ∧ l < 4
  · rw [h l.toNat (by omega)]
  · rw [decide_eq_false (fun x => hl x.1), decide_eq_false (fun x => hl x.1)]
theorem sessMay_lens {s s' : Nat → Sl} {i : Nat → Int} {pn rn tn : Nat} {pz rz tz : Nat → Int} (h : ∀ g, g < 4 → (s g).n = (s' g).n) : sessMay s i pn rn tn pz rz tz = sessMay s' i pn rn tn pz rz tz := by
  have e1 : instThere s pz = instThere s' pz := by funext k; unfold instThere; rw [thereV_lens h]
  have e2 : thereP s tz = thereP s' tz := by funext k; unfold thereP; rw [thereV_lens h]
  have e3 : thereP s rz = thereP s' rz := by funext k; unfold thereP; rw [thereV_lens h]
  unfold sessMay wordsThere
  rw [e1, e2, e3]
theorem SlIs.len {W : World} {k : Nat} {s : Sl} {L : List Int} (h : SlIs W k s L) (hk : 0 < k) : L.length / k = s.n := by rw [h.1, Nat.mul_div_cancel _ hk]
theorem MachIs.lens {W : World} {A : MacM} {M : PMach} (h : MachIs W A M) : ∀ g, g < 4 → (A.w g).n = (M.lens g).n := fun g hg => ((h.words g hg).len (by decide)).symm
theorem MachIs.arn {W : World} {A : MacM} {M : PMach} (h : MachIs W A M) : Arn W A.w M.wz := fun g hg => (h.words g hg).2.2
theorem MachIs.fit {W : World} {A : MacM} {M : PMach} (h : MachIs W A M) : Fit A.w := fun g hg => ⟨(h.words g hg).2.1.1, (h.words g hg).2.1.2.2⟩
theorem MachIs.short {W : World} {A : MacM} {M : PMach} (h : MachIs W A M) : Short A.w := fun g hg => by have := (h.words g hg).2.1.1; omega
theorem SessIs.may {W : World} {q : SesM} {x : PSess} {s s' : Nat → Sl} (h : SessIs W q x) (hs : ∀ g, g < 4 → (s g).n = (s' g).n) : sessMay s (lz x.num) q.p.n q.r.n q.t.n (lz x.prog) (lz x.reads) (lz x.writes) = sessMayP s' x := by
  unfold sessMayP PSess.pn PSess.rn PSess.tn
  rw [h.2.1.len (by decide), h.2.2.1.len (by decide), h.2.2.2.len (by decide), sessMay_lens hs]
theorem SesIs.range {W : World} {s : Sl} {q : Nat → SesM} {X : List PSess} (h : SesIs W s q X) {i : Nat} (hi : i < s.n) : ∃ b off, s.a = some ⟨b, off, none⟩ ∧ b < W.heap.size ∧ W.rangeAt b (off + i * 17) (sessOf (q i) (X.getD i noSess)) := by
  obtain ⟨b, off, e, hb, _⟩ := h.cell hi (j := 0) (by decide)
  refine ⟨b, off, e, hb, fun j v hv => ?_⟩
  have hj : j < 17 := by
    have := (List.getElem?_eq_some_iff.1 hv).1
    simpa [sessOf, sessL] using this
  obtain ⟨b', off', e', _, hc⟩ := h.cell hi hj
  rw [e] at e'
  simp only [Option.some.injEq, Addr.mk.injEq, and_true] at e'
  obtain ⟨rfl, rfl⟩ := e'
  rw [Nat.add_assoc, hc]
  generalize sessOf (q i) (X.getD i noSess) = l at hv ⊢
  rw [List.getD_eq_getElem?_getD, hv]
  rfl
end Go.Proofs.YtnjognmnbpcaaaaGreat
namespace Go.Proofs.YtnjognmnbpcaaaaGreat
open Go.RowKit
set_option linter.unusedSimpArgs false
set_option linter.unusedVariables false
def MacM.push (A : MacM) (s : Sl) (q : SesM) : MacM := { A with s := s, q := updM A.q A.s.n q }
theorem MacM.sl_push (A : MacM) (g cap : Nat) (q : SesM) (j : Nat) : (A.push ⟨some ⟨g, 0, none⟩, A.s.n + 1, cap⟩ q).sl j = if j = 4 then ⟨some ⟨g, 0, none⟩, A.s.n + 1, cap⟩ else if 6 ≤ j ∧ (j - 6) / 3 = A.s.n then q.sl ((j - 6) % 3) else A.sl j := by
  unfold MacM.sl MacM.push
  simp only [updM]
  by_cases h1 : j < 4
  · rw [if_pos h1, if_neg (by omega), if_neg (by omega), if_pos h1]
  · rw [if_neg h1, if_neg h1]
    by_cases h2 : j = 4
    · rw [if_pos h2, if_pos h2]
    · rw [if_neg h2, if_neg h2, if_neg h2]
      by_cases h3 : j = 5
      · rw [if_pos h3, if_neg (by omega), if_pos h3]
      · rw [if_neg h3, if_neg h3]
        by_cases h4 : (j - 6) / 3 = A.s.n
        · rw [if_pos h4, if_pos ⟨by omega, h4⟩]
        · rw [if_neg h4, if_neg (by omega)]
/-- A machine whose sessions' list may still grow. -/
structure PartOwn (D : Nat → Prop) (W : World) (A : MacM) (M : PMach) : Prop where
  own : MachOwn D W A M
  row : ∃ v, v = A.s.v ∧ W.ownsRow 0 44 17 v A.s.n (rowL (sessCell A.q M.sess) (A.s.n * 17)) ∧ ∀ g, v.ownBlock = some g → D g ∧ (∀ j, j < A.num → j ≠ 4 → 0 < (A.sl j).n → (A.sl j).a ≠ some ⟨g, 0, none⟩) ∧ A.e.v.ownBlock ≠ some g
def partI (D : Nat → Prop) (A : MacM) (M : PMach) : Itm := ⟨D, fun W => PartOwn D W A M⟩
theorem partI_loc (D : Nat → Prop) (A : MacM) (M : PMach) : (partI D A M).Loc := fun W W' h hs hk => by
  have h : PartOwn D W A M := h
  obtain ⟨v, hv, ho, hb⟩ := h.row
  exact ⟨h.own.keep hs hk, v, hv, ownsRow_keep ho fun g hg => hk g (hb g hg).1, hb⟩
theorem sessCell_len (q : SesM) (x : PSess) (j : Nat) (hj : j < 17) : ∃ v, (sessOf q x)[j]? = some v ∧ (sessOf q x).getD j undef = v := by
  have : j < (sessOf q x).length := by rw [sessOf_len]; exact hj
  exact ⟨_, List.getElem?_eq_getElem this, by simp [List.getD, this]⟩
theorem PartOwn.push {D D2 : Nat → Prop} {w W : World} {A : MacM} {M : PMach} (h : PartOwn D w A M) {q : SesM} {x : PSess} (hx : SesOwn D2 w q x) (hd : ∀ k, D k → D2 k → False) (h2 : ∀ k, D2 k → k < w.heap.size) (hb : (A.s.n + 1) * 184 ≤ 140737488351232) {g cap : Nat} (hg : w.grownBy W A.s.v.ownBlock)
    (ho : W.ownsRow 0 44 17 (.slice (some ⟨g, 0, none⟩) (A.s.n + 1) cap) (A.s.n + 1) (rowL (sessCell A.q M.sess) (A.s.n * 17) ++ sessOf q x)) (hat : A.s.v.ownBlock = some g ∨ w.heap.size ≤ g) :
    PartOwn (fun k => D k ∨ D2 k ∨ k = g) W (A.push ⟨some ⟨g, 0, none⟩, A.s.n + 1, cap⟩ q) { M with sess := M.sess ++ [x] } := by
  obtain ⟨_, rfl, hr, hb4⟩ := h.row
  have hM := h.own
  obtain ⟨_, rfl, ht5, hb5⟩ := hM.trace
  have hX := hM.is.sess.1
  have nn : A.num = 6 + 3 * A.s.n := rfl
  have nn' : (A.push ⟨some ⟨g, 0, none⟩, A.s.n + 1, cap⟩ q).num = 6 + 3 * (A.s.n + 1) := rfl
  have blt : ∀ j, j < A.num → 0 < (A.sl j).n → ∀ b o, (A.sl j).a = some ⟨b, o, none⟩ → D b ∧ b < w.heap.size := fun j hj h0 b o e => by
    obtain ⟨b2, e2, hD, l, hl⟩ := hM.own j hj h0
    rw [e2] at e; cases e; exact ⟨hD, hl.lt⟩
  have kp : ∀ j, j < A.num → j ≠ 4 → 0 < (A.sl j).n → ∀ b o, (A.sl j).a = some ⟨b, o, none⟩ → W.heap[b]? = w.heap[b]? := fun j hj hj4 h0 b o e => by
    refine hg.block b (blt j hj h0 b o e).2 fun hrr => ?_
    obtain ⟨b2, e2, _⟩ := hM.own j hj h0
    rw [e2] at e; cases e
    exact (hb4 _ hrr.symm).2.1 j hj hj4 h0 e2
  have kq : ∀ k, D2 k → W.heap[k]? = w.heap[k]? := fun k hk => hg.block k (h2 k hk) fun hrr => hd k (hb4 k hrr.symm).1 hk
  have gne : ∀ j, j < A.num → j ≠ 4 → 0 < (A.sl j).n → (A.sl j).a ≠ some ⟨g, 0, none⟩ := fun j hj hj4 h0 e => by
    rcases hat with hat | hat
    · exact (hb4 g hat).2.1 j hj hj4 h0 e
    · have := (blt j hj h0 g 0 e).2; omega
  have gq : ¬ D2 g := fun hk => by
    rcases hat with hat | hat
    · exact hd g (hb4 g hat).1 hk
    · have := h2 g hk; omega
  have qb : ∀ j, j < 3 → 0 < (q.sl j).n → ∀ b o, (q.sl j).a = some ⟨b, o, none⟩ → D2 b := fun j hj h0 b o e => by
    obtain ⟨b2, e2, hD, _⟩ := hx.own j hj h0
    rw [e2] at e; cases e; exact hD
  have hL : rowL (sessCell A.q M.sess) (A.s.n * 17) ++ sessOf q x = rowL (sessCell (updM A.q A.s.n q) (M.sess ++ [x])) ((A.s.n + 1) * 17) := by
    apply List.ext_getElem?
    intro i
    by_cases h1 : i < A.s.n * 17
    · rw [List.getElem?_append_left (by rw [rowL_len]; exact h1), rowL_get h1, rowL_get (by omega)]
      unfold sessCell updM
      rw [if_neg (by omega)]
      have : i / 17 < M.sess.length := by omega
      simp [List.getD, List.getElem?_append_left this]
    · rw [List.getElem?_append_right (by rw [rowL_len]; omega), rowL_len]
      by_cases h3 : i < (A.s.n + 1) * 17
      · rw [rowL_get h3]
        unfold sessCell updM
        rw [if_pos (by omega), show i - A.s.n * 17 = i % 17 by omega]
        obtain ⟨v, e1, e2⟩ := sessCell_len q x (i % 17) (by omega)
        have : (M.sess ++ [x]).getD (i / 17) noSess = x := by
          rw [show i / 17 = M.sess.length by omega]
          simp [List.getD]
        rw [this, e1, e2]
      · rw [rowL_none (by omega)]
        exact List.getElem?_eq_none (by rw [sessOf_len]; omega)
  rw [hL] at ho
  have own' : Own W g ((A.s.n + 1) * 17) (sessCell (updM A.q A.s.n q) (M.sess ++ [x])) := by
    rcases own_of_owns ho with ⟨e, _⟩ | ⟨g2, c2, e, _, _, _, o⟩
    · cases e
    · cases e; exact o
  have hcap : A.s.n + 1 ≤ cap := by
    rcases ho.2 with ⟨e, _⟩ | ⟨g2, c2, cur, e, _, _, hn2, _⟩
    · cases e
    · cases e; exact hn2
  have slq : ∀ j, j < 6 + 3 * (A.s.n + 1) → j ≠ 4 → (6 ≤ j ∧ (j - 6) / 3 = A.s.n) ∨ (j < A.num ∧ (A.push ⟨some ⟨g, 0, none⟩, A.s.n + 1, cap⟩ q).sl j = A.sl j) := fun j hj hj4 => by
    by_cases c : 6 ≤ j ∧ (j - 6) / 3 = A.s.n
    · exact .inl c
    · exact .inr ⟨by omega, by rw [A.sl_push, if_neg hj4, if_neg c]⟩
  have sl4 : (A.push ⟨some ⟨g, 0, none⟩, A.s.n + 1, cap⟩ q).sl 4 = ⟨some ⟨g, 0, none⟩, A.s.n + 1, cap⟩ := by rw [A.sl_push, if_pos rfl]
  have slp : ∀ j, 6 ≤ j ∧ (j - 6) / 3 = A.s.n → (A.push ⟨some ⟨g, 0, none⟩, A.s.n + 1, cap⟩ q).sl j = q.sl ((j - 6) % 3) := fun j c => by rw [A.sl_push, if_neg (by omega), if_pos c]
  refine ⟨⟨⟨hM.is.four, hM.is.clocks, fun k hk => ?_, ⟨?_, ⟨hb, hcap, fun e => by cases e⟩, own'.row, fun i hi => ?_⟩, ?_⟩, fun j hj => ?_, fun i j hij hj h0 h1 => ?_, ⟨A.e.v, rfl, ?_, fun g' hg' => ?_⟩⟩, .slice (some ⟨g, 0, none⟩) (A.s.n + 1) cap, rfl, ho, fun g' hg' => ?_⟩
  · exact (hM.is.words k hk).keep hg.size fun h0 b o e => kp k (by omega) (by omega) (by rw [A.sl_w hk]; exact h0) b o (by rw [A.sl_w hk]; exact e)
  · show (M.sess ++ [x]).length = A.s.n + 1
    rw [List.length_append, hX]; rfl
  · show SessIs W (updM A.q A.s.n q i) ((M.sess ++ [x]).getD i noSess)
    have hi : i < A.s.n + 1 := hi
    unfold updM
    by_cases hin : i = A.s.n
    · rw [if_pos hin]
      have : (M.sess ++ [x]).getD i noSess = x := by rw [hin, ← hX]; simp [List.getD]
      rw [this]
      exact hx.is.keep hg.size fun j hj h0 b o e => kq b (qb j hj h0 b o e)
    · rw [if_neg hin]
      have : (M.sess ++ [x]).getD i noSess = M.sess.getD i noSess := by
        have : i < M.sess.length := by omega
        simp [List.getD, List.getElem?_append_left this]
      rw [this]
      exact (hM.is.sess.2.2.2 i (by omega)).keep hg.size fun j hj h0 b o e => kp (6 + 3 * i + j) (by omega) (by omega) (by rw [A.sl_q i hj]; exact h0) b o (by rw [A.sl_q i hj]; exact e)
  · exact hM.is.trace.keep hg.size fun h0 b o e => kp 5 (by omega) (by omega) (by rw [A.sl_e]; exact h0) b o (by rw [A.sl_e]; exact e)
  · rw [nn'] at hj
    by_cases j4 : j = 4
    · subst j4
      rw [sl4]
      exact fun _ => by
        obtain ⟨l, hl, _⟩ := own'
        exact ⟨g, rfl, .inr (.inr rfl), l, hl⟩
    · rcases slq j hj j4 with c | ⟨hjn, e⟩
      · rw [slp j c]
        intro h0
        obtain ⟨b2, e2, h1, l, t, hl⟩ := hx.own _ (Nat.mod_lt _ (by decide)) h0
        exact ⟨b2, e2, .inr (.inl h1), l, t, by rw [kq b2 h1]; exact hl⟩
      · rw [e]
        intro h0
        obtain ⟨b2, e2, h1, l, t, hl⟩ := hM.own j hjn h0
        exact ⟨b2, e2, .inl h1, l, t, by rw [kp j hjn j4 h0 b2 0 e2]; exact hl⟩
  · rw [nn'] at hj
    have key : ∀ i j, i < 6 + 3 * (A.s.n + 1) → j < 6 + 3 * (A.s.n + 1) → i ≠ j → j ≠ 4 → (6 ≤ j ∧ (j - 6) / 3 = A.s.n) → 0 < ((A.push ⟨some ⟨g, 0, none⟩, A.s.n + 1, cap⟩ q).sl i).n → 0 < ((A.push ⟨some ⟨g, 0, none⟩, A.s.n + 1, cap⟩ q).sl j).n → ((A.push ⟨some ⟨g, 0, none⟩, A.s.n + 1, cap⟩ q).sl i).a ≠ ((A.push ⟨some ⟨g, 0, none⟩, A.s.n + 1, cap⟩ q).sl j).a := fun i j hi hj hij hj4 c h0 h1 => by
      rw [slp j c] at h1 ⊢
      by_cases i4 : i = 4
      · subst i4
        rw [sl4]
        intro e
        exact gq (qb _ (Nat.mod_lt _ (by decide)) h1 g 0 e.symm)
      · rcases slq i hi i4 with ci | ⟨hin, e⟩
        · rw [slp i ci] at h0 ⊢
          rcases Nat.lt_or_gt_of_ne (show (i - 6) % 3 ≠ (j - 6) % 3 by omega) with hl | hl
          · exact hx.apart _ _ hl (Nat.mod_lt _ (by decide)) h0 h1
          · exact (hx.apart _ _ hl (Nat.mod_lt _ (by decide)) h1 h0).symm
        · rw [e] at h0 ⊢
          intro e'
          obtain ⟨b2, e2, hD, _⟩ := hM.own i hin h0
          rw [e2] at e'
          exact hd b2 hD (qb _ (Nat.mod_lt _ (by decide)) h1 b2 0 e'.symm)
    by_cases i4 : i = 4
    · subst i4
      rcases slq j hj (by omega) with c | ⟨hjn, e⟩
      · exact key 4 j (by omega) hj (by omega) (by omega) c h0 h1
      · rw [sl4]; rw [e] at h1 ⊢
        exact (gne j hjn (by omega) h1).symm
    · by_cases j4 : j = 4
      · subst j4
        rcases slq i (by omega) i4 with c | ⟨hin, e⟩
        · exact (key 4 i (by omega) (by omega) (by omega) i4 c h1 h0).symm
        · rw [sl4]; rw [e] at h0 ⊢
          exact gne i hin i4 h0
      · rcases slq j hj j4 with c | ⟨hjn, e⟩
        · exact key i j (by omega) hj (by omega) j4 c h0 h1
        · rcases slq i (by omega) i4 with c' | ⟨hin, e'⟩
          · exact (key j i hj (by omega) (by omega) i4 c' h1 h0).symm
          · rw [e'] at h0 ⊢; rw [e] at h1 ⊢
            exact hM.apart i j hij hjn h0 h1
  · exact ownsRow_keep ht5 fun g' hg' => hg.block g' (ht5.lt g' hg').2 fun hrr => (hb4 g' hrr.symm).2.2 hg'
  · refine ⟨.inl (hb5 g' hg').1, fun j hj hj5 h0 => ?_⟩
    rw [nn'] at hj
    by_cases j4 : j = 4
    · subst j4
      rw [sl4]
      intro e
      have eg : g = g' := by simpa using e
      subst eg
      rcases hat with hat | hat
      · exact (hb4 g hat).2.2 hg'
      · have := (ht5.lt g hg').2; omega
    · rcases slq j hj j4 with c | ⟨hjn, e⟩
      · rw [slp j c] at h0 ⊢
        intro e
        exact hd g' (hb5 g' hg').1 (qb _ (Nat.mod_lt _ (by decide)) h0 g' 0 e)
      · rw [e] at h0 ⊢
        exact (hb5 g' hg').2 j hjn hj5 h0
  · obtain rfl : g = g' := by simpa [Value.ownBlock] using hg'
    refine ⟨.inr (.inr rfl), fun j hj hj4 h0 => ?_, fun e => ?_⟩
    · rw [nn'] at hj
      rcases slq j hj hj4 with c | ⟨hjn, e⟩
      · rw [slp j c] at h0 ⊢
        exact fun e => gq (qb _ (Nat.mod_lt _ (by decide)) h0 g 0 e)
      · rw [e] at h0 ⊢
        exact gne j hjn hj4 h0
    · have e : A.e.v.ownBlock = some g := e
      rcases hat with hat | hat
      · exact (hb4 g hat).2.2 e
      · have := (ht5.lt g e).2; omega
/-- A session is appended to the list of a machine that grows. -/
theorem stw_sess {w0 w : World} {L : List Itm} {P : Program} {op : Oper} {a : Act} {K : Act → World → Prop} {Q : Exit → Act → World → Prop} (HS : Hid (St w0 w L)) (j i k : Nat) {D D2 : Nat → Prop} {A : MacM} {M : PMach} {be : Nat} {q : SesM} {x : PSess} (ej : L[j]? = some (blkI be (sessOf q x))) (ei : L[i]? = some (partI D A M)) (ek : L[k]? = some (sesI D2 q x)) (hik : i ≠ k) (hbd : (A.s.n + 1) * 184 ≤ 140737488351232)
    (s y : Operand) (t : TypeId) (ho : op.op = .call { callee := .builtin .append, args := #[s, y], argTypes := #[t, t] }) (z : Value) (ht : P.underlying t = some (.slice 44)) (hi : (P.info? 44).map (fun i => (i.zero, i.size, i.bytes)) = some (some z, 17, 184)) (hzs : z.cells.size = 17)
    (hs : a.eval s = .slice A.s.a A.s.n A.s.c) (hy : a.eval y = .slice (some ⟨be, 0, none⟩) 1 1)
    (h : ∀ W D' g cap, Hid (St w0 W ((L.set i (partI D' (A.push ⟨some ⟨g, 0, none⟩, A.s.n + 1, cap⟩ q) { M with sess := M.sess ++ [x] })).set k empI)) → K (a.put op.dst (.slice (some ⟨g, 0, none⟩) (A.s.n + 1) cap)) W) : op.wp P a w K Q := by
  obtain ⟨ie, hie, hz, hsize, hby⟩ := info_parts hi
  have hP : PartOwn D w A M := HS.out.get i ei
  have hX : SesOwn D2 w q x := HS.out.get k ek
  obtain ⟨_, rfl, hr, hb4⟩ := hP.row
  have B := HS.out.blk j ej
  have hne : ∀ k', D k' → D2 k' → False := fun k' h1 h2 => HS.out.apart i k _ _ ei ek hik k' h1 h2
  refine wp_append_lies w s y t ho 0 44 ie z 17 184 ht hie hz hsize hby hzs (by decide) A.s.v A.s.n _ hs hr ⟨be, 0, none⟩ 1 1 (sessOf q x) hy rfl (fun k' u hk => ?_) (fun u hu => ?_) (by decide) (by unfold maxLen; omega) (by omega) (Nat.zero_le _) w.heap.size rfl fun g cap W' hown hgrow hat hlt => ?_
  · have hadd : (⟨be, 0, none⟩ : Addr).add k' = ⟨be, k', none⟩ := by unfold Addr.add; split <;> simp_all
    rw [hadd]
    exact B.cell k' u hk
  · unfold sessOf sessL at hu
    simp only [List.mem_cons, List.not_mem_nil, or_false] at hu
    rcases hu with rfl | rfl | rfl | rfl | rfl | rfl | rfl | rfl | rfl | rfl | rfl | rfl | rfl | rfl | rfl | rfl | rfl <;> rfl
  · have h1 := HS.out.give i k ei ek hik ⟨fun k' => D k' ∨ D2 k', fun W => PartOwn D W A M ∧ SesOwn D2 W q x⟩ (fun W W' hh hs hk => ⟨partI_loc D A M W W' hh.1 hs fun k' hk' => hk k' (.inl hk'), sesI_loc D2 q x W W' hh.2 hs fun k' hk' => hk k' (.inr hk')⟩) ⟨hP, hX⟩ (fun k' hk' => hk')
    have hil : i < L.length := (List.getElem?_eq_some_iff.1 ei).1
    have e1 : ((L.set i (⟨fun k' => D k' ∨ D2 k', fun W => PartOwn D W A M ∧ SesOwn D2 W q x⟩ : Itm)).set k empI)[i]? = some ⟨fun k' => D k' ∨ D2 k', fun W => PartOwn D W A M ∧ SesOwn D2 W q x⟩ := by
      rw [List.getElem?_set_ne (Ne.symm hik), List.getElem?_set_self hil]
    have h2 := h1.set i e1 (partI (fun k' => D k' ∨ D2 k' ∨ k' = g) (A.push ⟨some ⟨g, 0, none⟩, A.s.n + 1, cap⟩ q) { M with sess := M.sess ++ [x] }) (chg_grown hgrow fun g' hg' => .inl (hb4 g' hg').1) (partI_loc _ _ _)
      (hP.push hX hne (fun k' hk' => ((HS.out.here k _ ek).2.2 k' hk').2) hbd hgrow hown (hat.imp id fun e => by omega)) (fun k' hk' => by
        rcases hk' with hk' | hk' | rfl
        · exact .inl (.inl hk')
        · exact .inl (.inr hk')
        · rcases hat with hat | hat
          · exact .inl (.inl (hb4 k' hat).1)
          · exact .inr ⟨by omega, hlt⟩)
    have e2 : ((L.set i (⟨fun k' => D k' ∨ D2 k', fun W => PartOwn D W A M ∧ SesOwn D2 W q x⟩ : Itm)).set k empI).set i (partI (fun k' => D k' ∨ D2 k' ∨ k' = g) (A.push ⟨some ⟨g, 0, none⟩, A.s.n + 1, cap⟩ q) { M with sess := M.sess ++ [x] }) = (L.set i (partI (fun k' => D k' ∨ D2 k' ∨ k' = g) (A.push ⟨some ⟨g, 0, none⟩, A.s.n + 1, cap⟩ q) { M with sess := M.sess ++ [x] })).set k empI := by
      rw [List.set_comm _ _ (Ne.symm hik), List.set_set]
    rw [e2] at h2
    exact h W' _ g cap h2
theorem st_sess {w0 w : World} {L : List Itm} {P : Program} {ops : Array Oper} {rest : List Oper} {op : Oper} {a : Act} {Q : Exit → Act → World → Prop} (HS : Hid (St w0 w L)) (j i k : Nat) {D D2 : Nat → Prop} {A : MacM} {M : PMach} {be : Nat} {q : SesM} {x : PSess} (ej : L[j]? = some (blkI be (sessOf q x))) (ei : L[i]? = some (partI D A M)) (ek : L[k]? = some (sesI D2 q x)) (hik : i ≠ k) (hbd : (A.s.n + 1) * 184 ≤ 140737488351232) (hgd : Region.wanted op (yielded ops a.tmps) = true)
    (s y : Operand) (t : TypeId) (ho : op.op = .call { callee := .builtin .append, args := #[s, y], argTypes := #[t, t] }) (z : Value) (ht : P.underlying t = some (.slice 44)) (hi : (P.info? 44).map (fun i => (i.zero, i.size, i.bytes)) = some (some z, 17, 184)) (hzs : z.cells.size = 17)
    (hs : a.eval s = .slice A.s.a A.s.n A.s.c) (hy : a.eval y = .slice (some ⟨be, 0, none⟩) 1 1)
    (h : ∀ W D' g cap, Hid (St w0 W ((L.set i (partI D' (A.push ⟨some ⟨g, 0, none⟩, A.s.n + 1, cap⟩ q) { M with sess := M.sess ++ [x] })).set k empI)) → wpList P ops Q rest (a.put op.dst (.slice (some ⟨g, 0, none⟩) (A.s.n + 1) cap)) W) : wpList P ops Q (op :: rest) a w :=
  BigFrame.wpList_want hgd fun _ hK => stw_sess HS j i k ej ei ek hik hbd s y t ho z ht hi hzs hs hy fun W D' g cap h1 => hK _ _ (h W D' g cap h1)
/-- A trace of its own is laid in. -/
theorem MachOwn.withE {D D2 : Nat → Prop} {W : World} {A : MacM} {M : PMach} (h : MachOwn D W A M) (hd : ∀ k, D k → D2 k → False) {s : Sl} {l : List Int} (hl : ListOwn D2 88 4 W s l) :
    MachOwn (fun k => D k ∨ D2 k) W (A.setE s) { M with trace := l } := by
  obtain ⟨v, hv, ho, hb⟩ := hl.row
  have key : ∀ j, j < A.num → j ≠ 5 → 0 < (A.sl j).n → 0 < s.n → (A.sl j).a ≠ s.a := fun j hj _ h0 h1 => (h.own j hj).ne hl.own hd h0 h1
  refine ⟨⟨h.is.four, h.is.clocks, h.is.words, h.is.sess, hl.is⟩, fun j hj => ?_, fun i j hij hj h0 h1 => ?_, ⟨v, hv, ho, fun g hg => ⟨.inr (hb g hg), fun j hj hj5 h0 => ?_⟩⟩⟩
  · rw [A.sl_setE]
    split
    · exact hl.own.mono fun k hk => .inr hk
    · exact (h.own j hj).mono fun k hk => .inl hk
  · rw [A.num_setE] at hj
    by_cases i5 : i = 5
    · have e1 : (A.setE s).sl i = s := by rw [A.sl_setE, if_pos i5]
      have e2 : (A.setE s).sl j = A.sl j := by rw [A.sl_setE, if_neg (by omega)]
      rw [e1] at h0 ⊢; rw [e2] at h1 ⊢
      exact (key j hj (by omega) h1 h0).symm
    · have e1 : (A.setE s).sl i = A.sl i := by rw [A.sl_setE, if_neg i5]
      rw [e1] at h0 ⊢
      by_cases j5 : j = 5
      · have e2 : (A.setE s).sl j = s := by rw [A.sl_setE, if_pos j5]
        rw [e2] at h1 ⊢
        exact key i (by omega) i5 h0 h1
      · have e2 : (A.setE s).sl j = A.sl j := by rw [A.sl_setE, if_neg j5]
        rw [e2] at h1 ⊢
        exact h.apart i j hij hj h0 h1
  · have e2 : (A.setE s).sl j = A.sl j := by rw [A.sl_setE, if_neg hj5]
    rw [e2] at h0 ⊢
    intro e
    obtain ⟨b, e3, hD, _⟩ := h.own j hj h0
    rw [e3] at e
    simp only [Option.some.injEq, Addr.mk.injEq, and_true] at e
    exact hd b hD (e ▸ hb g hg)
/-- A machine of words alone. -/
def wordM (t : Nat → Sl) : MacM := { w := t, s := noSl, q := fun _ => ⟨noSl, noSl, noSl⟩, e := noSl }
theorem wordM_n (t : Nat → Sl) {j : Nat} (hj : 4 ≤ j) : ((wordM t).sl j).n = 0 := by
  unfold MacM.sl wordM SesM.sl
  rw [if_neg (by omega)]
  split
  · rfl
  · split
    · rfl
    · split <;> rfl
theorem partOwn_words {D : Nat → Prop} {W : World} {t : Nat → Sl} {M : PMach} (h4 : M.words.length = 4) (hc : M.clocks.length = 4) (hs : M.sess = []) (ht : M.trace = []) (hw : ∀ g, g < 4 → SlIs W 3 (t g) (M.lv g)) (ho : ∀ g, g < 4 → SlOwn D W (t g)) (ha : ∀ g h, g < h → h < 4 → 0 < (t g).n → 0 < (t h).n → (t g).a ≠ (t h).a) : PartOwn D W (wordM t) M := by
  refine ⟨⟨⟨h4, hc, hw, ?_, ?_⟩, fun j hj => ?_, fun i j hij hj h0 h1 => ?_, ⟨.slice none 0 0, rfl, ?_, fun g hg => by simp [Value.ownBlock] at hg⟩⟩, ⟨.slice none 0 0, rfl, ?_, fun g hg => by simp [Value.ownBlock] at hg⟩⟩
  · rw [hs]
    exact ⟨rfl, ⟨by show 0 * 184 ≤ _; omega, Nat.le_refl 0, fun _ => ⟨rfl, rfl⟩⟩, row_zero _ _ _, fun i hi => absurd hi (Nat.not_lt_zero _)⟩
  · rw [ht]; exact slIs_none W 4
  · by_cases h : j < 4
    · rw [MacM.sl_w _ h]; exact ho j h
    · exact slOwn_none _ _ (wordM_n t (by omega))
  · by_cases h : j < 4
    · rw [MacM.sl_w _ h] at h1 ⊢
      rw [MacM.sl_w _ (show i < 4 by omega)] at h0 ⊢
      exact ha i j hij h h0 h1
    · have := wordM_n t (j := j) (by omega); omega
  · rw [ht]; exact World.ownsRow_nil _ _ _ _
  · rw [hs]; exact World.ownsRow_nil _ _ _ _
/-- What a copy of an arena leaves. -/
theorem fresh_words {B C : Nat} {W w : World} {s t : Nat → Sl} {M : PMach} (h : Fresh B C W t M.wz 4) (hn : ∀ g, g < 4 → (t g).n = (s g).n) (hny : Nilly t) (hs : ∀ g, g < 4 → SlIs w 3 (s g) (M.lv g)) :
    (∀ g, g < 4 → SlIs W 3 (t g) (M.lv g)) ∧ (∀ g, g < 4 → SlOwn (fun k => B ≤ k ∧ k < C) W (t g)) ∧ (∀ g h, g < h → h < 4 → 0 < (t g).n → 0 < (t h).n → (t g).a ≠ (t h).a) := by
  have ha := h.arn
  obtain ⟨β, h1, h2⟩ := h
  refine ⟨fun g hg => ⟨by rw [hn g hg]; exact (hs g hg).1, ⟨by rw [hn g hg]; exact (hs g hg).2.1.1, (hny g).2, (hny g).1⟩, ha g hg⟩, fun g hg h0 => ?_, fun g k hgk hk h0 h3 => ?_⟩
  · obtain ⟨e, k1, k2, l, hl, _⟩ := h1 g hg h0
    exact ⟨β g, e, ⟨k1, k2⟩, l, hl⟩
  · obtain ⟨e, _⟩ := h1 g (by omega) h0
    obtain ⟨e', _⟩ := h1 k hk h3
    rw [e, e']
    have := h2 g k hgk hk h0 h3
    intro e2
    simp only [Option.some.injEq, Addr.mk.injEq, and_true] at e2
    omega
end Go.Proofs.YtnjognmnbpcaaaaGreat
namespace Go.Proofs.YtnjognmnbpcaaaaGreat
open Go.RowKit
set_option linter.unusedSimpArgs false
set_option linter.unusedVariables false
/-- One write's numbers. -/
def oneW (l i v : Int) : Nat → Int := insW 0 0 (fun _ => 0) l i v
theorem Blk.write {w : World} {b : Nat} {l i v : Int} (h : Blk w b [.int .i64 l, .int .i64 i, .int .i64 v]) : Row w (some ⟨b, 0, none⟩) (1 * 3) fun j => .int .i64 (oneW l i v j) := by
  refine Own.row ⟨_, h, fun j hj => ?_⟩
  have : j = 0 ∨ j = 1 ∨ j = 2 := by omega
  rcases this with rfl | rfl | rfl <;> rfl
theorem writesMay_one (l i v : Int) : writesMay 1 (oneW l i v) = writeMay l i v := by
  show ((true && writeMay l i v) && (true && riseW (oneW l i v) 0) && true) = _
  rw [Bool.true_and, Bool.and_true, show riseW (oneW l i v) 0 = true from rfl, Bool.and_self, Bool.and_true]
/-- What With hands back: in new memory the writes with the one more, or nothing. -/
def WithWPost (n : Nat) (z : Nat → Int) (l i v : Int) (w : World) (e : Ending) (w' : World) : Prop :=
  ∃ x : Sl, e = .returned (.tuple #[.slice x.a x.n x.c, .int .i64 (withWE n z l i v)]) ∧ (x.a = none → x.n = 0 ∧ x.c = 0) ∧ x.n ≤ x.c ∧ x.n = withWN n z l i v ∧ (withWOk n z l i v = false → x = ⟨none, 0, 0⟩) ∧
    (0 < x.n → ∃ b, x.a = some ⟨b, 0, none⟩ ∧ w.heap.size ≤ b ∧ b < w'.heap.size ∧ Own w' b (x.n * 3) (intF (withWZ n z l i v))) ∧ Below w.heap.size w w'
theorem withW_no {n : Nat} {z : Nat → Int} {l i v : Int} {w w' : World} (h : withWOk n z l i v = false) (hb : Below w.heap.size w w') : WithWPost n z l i v w (.returned (.tuple #[.slice none 0 0, .int .i64 1000])) w' :=
  ⟨⟨none, 0, 0⟩, by unfold withWE; rw [h]; rfl, fun _ => ⟨rfl, rfl⟩, Nat.le_refl _, by unfold withWN; rw [h]; rfl, fun _ => rfl, fun hp => absurd hp (Nat.lt_irrefl 0), hb⟩
theorem withW_yes {n m : Nat} {z : Nat → Int} {l i v : Int} {w w' : World} {a : Option Addr} {c : Nat} (h : withWOk n z l i v = true) (hm : m = posW n z l i + 1 + (n - toW n z l i)) (hb : Below w.heap.size w w')
    (hc : m ≤ c) (ho : 0 < m → ∃ b, a = some ⟨b, 0, none⟩ ∧ w.heap.size ≤ b ∧ b < w'.heap.size ∧ Own w' b (m * 3) (intF (withWZ n z l i v))) : WithWPost n z l i v w (.returned (.tuple #[.slice a m c, .int .i64 0])) w' := by
  obtain ⟨b, e1, e2, e3, e4⟩ := ho (by omega)
  exact ⟨⟨a, m, c⟩, by unfold withWE; rw [h]; rfl, (fun ha => by rw [e1] at ha; cases ha), hc, by unfold withWN; rw [h]; exact hm, (fun h' => by rw [h] at h'; cases h'), fun _ => ⟨b, e1, e2, e3, e4⟩, hb⟩
/-- A row, and three cells more of the same function. -/
theorem rowL_three (Z : Nat → Int) (m : Nat) {x y u : Int} (h : Z (m * 3) = x ∧ Z (m * 3 + 1) = y ∧ Z (m * 3 + 2) = u) : rowL (intF Z) (m * 3) ++ [.int .i64 x, .int .i64 y, .int .i64 u] = rowL (intF Z) ((m + 1) * 3) := by
  obtain ⟨rfl, rfl, rfl⟩ := h
  rw [show (m + 1) * 3 = m * 3 + 3 by omega, rowL_add]
  rfl
/-- Where the loop stands: how many were taken over, whether the one more was. -/
def MidW (n : Nat) (z : Nat → Int) (l i : Int) (k m : Nat) (d : Bool) : Prop :=
  (d = false → m = k ∧ k ≤ posW n z l i) ∧ (d = true → toW n z l i ≤ k ∧ m = posW n z l i + 1 + (k - toW n z l i))
theorem MidW.few {n k m : Nat} {z : Nat → Int} {l i : Int} {d : Bool} (H : Wr n z) (h : MidW n z l i k m d) (hk : k ≤ n) : m ≤ 17 := by
  have h1 := posW_le n z l i
  have h3 := H.few
  have h2 : posW n z l i ≤ toW n z l i := by unfold toW; cases hasW n z l i <;> simp only [cond_true, cond_false] <;> omega
  cases d
  · have := (h.1 rfl).1; omega
  · have := h.2 rfl; omega
section
variable {n k m : Nat} {z : Nat → Int} {l i v : Int}
/-- One that is ahead is taken over as it is. -/
theorem MidW.ahead (H : Wr n z) (hm : writeMay l i v = true) (h : MidW n z l i k m false) (hk : k < n) (hlt : wkey z k < 4 * l + i) :
    MidW n z l i (k + 1) (m + 1) false ∧ (withWZ n z l i v (m * 3) = z (k * 3) ∧ withWZ n z l i v (m * 3 + 1) = z (k * 3 + 1) ∧ withWZ n z l i v (m * 3 + 2) = z (k * 3 + 2)) := by
  obtain ⟨rfl, hp⟩ := h.1 rfl
  have hp' : m < posW n z l i := by
    by_cases e : m = posW n z l i
    · exfalso
      have h3 := H.alone m hk
      have := lead_no (p := ltW z l i) (n := n) (by show posW n z l i < n; omega)
      rw [show lead (ltW z l i) n = m from e.symm] at this
      have h4 := (ltW_key (l := l) ⟨h3.1, h3.2.1⟩ (writeMay_yes hm).2.1).2 hlt
      rw [this] at h4; cases h4
    · omega
  unfold withWZ
  exact ⟨⟨fun _ => ⟨rfl, by omega⟩, fun h => (by cases h)⟩, insW_ahead (by omega), insW_ahead (by omega), insW_ahead (by omega)⟩
/-- At the first that is not ahead, the one more is taken. -/
theorem MidW.here (H : Wr n z) (hm : writeMay l i v = true) (h : MidW n z l i k m false) (hk : k ≤ n) (hge : k < n → ¬ wkey z k < 4 * l + i) :
    (withWZ n z l i v (m * 3) = l ∧ withWZ n z l i v (m * 3 + 1) = i ∧ withWZ n z l i v (m * 3 + 2) = v) ∧
      (k < n → wkey z k = 4 * l + i → MidW n z l i (k + 1) (m + 1) true) ∧ (k < n → ¬ wkey z k = 4 * l + i → MidW n z l i (k + 1) (m + 1 + 1) true ∧ (withWZ n z l i v ((m + 1) * 3) = z (k * 3) ∧ withWZ n z l i v ((m + 1) * 3 + 1) = z (k * 3 + 1) ∧ withWZ n z l i v ((m + 1) * 3 + 2) = z (k * 3 + 2))) ∧
      (k = n → m + 1 = posW n z l i + 1 + (n - toW n z l i)) := by
  obtain ⟨rfl, hp⟩ := h.1 rfl
  have hi := (writeMay_yes hm).2.1
  have e : posW n z l i = m := by
    by_cases e : posW n z l i = m
    · exact e
    · exfalso
      have hlt : m < posW n z l i := by omega
      have h3 := H.alone m (by have := posW_le n z l i; omega)
      exact hge (by have := posW_le n z l i; omega) ((ltW_key ⟨h3.1, h3.2.1⟩ hi).1 (allTo_get (lead_all (ltW z l i) n) m hlt))
  refine ⟨?_, fun hk ek => ?_, fun hk ek => ?_, fun hk => ?_⟩
  · unfold withWZ
    rw [e]
    exact insW_at _ _ _ _ _ _
  · have hh : hasW n z l i = true := hasW_iff.2 ⟨m, hk, by have := H.alone m hk; have := (writeMay_yes hm).1; unfold wkey at ek; omega, by have := H.alone m hk; have := (writeMay_yes hm).1; unfold wkey at ek; omega⟩
    have ht : toW n z l i = m + 1 := by unfold toW; rw [hh, e]; rfl
    exact ⟨fun h => (by cases h), fun _ => ⟨by omega, by omega⟩⟩
  · have hh : hasW n z l i = false := by
      cases e' : hasW n z l i with
      | false => rfl
      | true =>
        have := H.has e'
        rw [e] at this
        exact absurd (show wkey z m = 4 * l + i by unfold wkey; rw [this.2.1, this.2.2]) ek
    have ht : toW n z l i = m := by unfold toW; rw [hh, e]; rfl
    refine ⟨⟨fun h => (by cases h), fun _ => ⟨by omega, by omega⟩⟩, ?_⟩
    unfold withWZ
    rw [e, ht]
    refine ⟨?_, ?_, ?_⟩
    · have := insW_behind (p := m) (t := m) (z := z) (l := l) (i := i) (v := v) 0
      simpa using this
    · exact insW_behind (p := m) (t := m) (z := z) (l := l) (i := i) (v := v) 1
    · exact insW_behind (p := m) (t := m) (z := z) (l := l) (i := i) (v := v) 2
  · subst hk
    have hh : hasW m z l i = false := by
      cases e' : hasW m z l i with
      | false => rfl
      | true => have := (H.has e').1; omega
    unfold toW
    rw [hh, e]
    simp
/-- Those behind are taken over. -/
theorem MidW.behind (H : Wr n z) (hm : writeMay l i v = true) (h : MidW n z l i k m true) (hk : k < n) :
    MidW n z l i (k + 1) (m + 1) true ∧ ¬ wkey z k = 4 * l + i ∧ (withWZ n z l i v (m * 3) = z (k * 3) ∧ withWZ n z l i v (m * 3 + 1) = z (k * 3 + 1) ∧ withWZ n z l i v (m * 3 + 2) = z (k * 3 + 2)) := by
  obtain ⟨h1, h2⟩ := h.2 rfl
  have h3 := (H.parts hm).2 k h1 hk
  refine ⟨⟨fun h => (by cases h), fun _ => ⟨by omega, by omega⟩⟩, by omega, ?_⟩
  subst h2
  unfold withWZ
  obtain ⟨d, hd⟩ : ∃ d, k = toW n z l i + d := ⟨k - toW n z l i, by omega⟩
  have e : k - toW n z l i = d := by omega
  rw [e]
  subst hd
  generalize posW n z l i = p, toW n z l i = t at *
  refine ⟨?_, ?_, ?_⟩
  · have := insW_behind (p := p) (t := t) (z := z) (l := l) (i := i) (v := v) (d * 3)
    rw [show (p + 1 + d) * 3 = (p + 1) * 3 + d * 3 by omega, this, show (t + d) * 3 = t * 3 + d * 3 by omega]
  · have := insW_behind (p := p) (t := t) (z := z) (l := l) (i := i) (v := v) (d * 3 + 1)
    rw [show (p + 1 + d) * 3 + 1 = (p + 1) * 3 + (d * 3 + 1) by omega, this, show (t + d) * 3 + 1 = t * 3 + (d * 3 + 1) by omega]
  · have := insW_behind (p := p) (t := t) (z := z) (l := l) (i := i) (v := v) (d * 3 + 2)
    rw [show (p + 1 + d) * 3 + 2 = (p + 1) * 3 + (d * 3 + 2) by omega, this, show (t + d) * 3 + 2 = t * 3 + (d * 3 + 2) by omega]
theorem MidW.done (H : Wr n z) (h : MidW n z l i n m true) : m = posW n z l i + 1 + (n - toW n z l i) := (h.2 rfl).2
end
end Go.Proofs.YtnjognmnbpcaaaaGreat
namespace Go.Proofs.YtnjognmnbpcaaaaGreat
open Go.RowKit
set_option linter.unusedSimpArgs false
set_option linter.unusedVariables false
set_option maxRecDepth 10000 in
set_option maxHeartbeats 4000000 in
theorem rgood_any (s : Nat → Sl) (y : Nat → Nat → Int) (a : Option Addr) (n c : Nat) (z : Nat → Int) (d : Int) (w : World) (hf : Short s) (hA : Arn w s y) (hn : n ≤ 1152921504606846976) (h : Row w a (n * 3) fun i => .int .i64 (z i)) :
    Calls Tryz.prog 92 #[arenaA s, .slice a n c, .int .i64 d] w fun e w' => e = .returned (.tuple #[.bool (goodV s y n z d), .int .i64 (goodE s y n z d)]) ∧ Below w.heap.size w w' := by
  have CA := hide fun w h => rarenaMay_any s y w hf h
  have CR := hide fun w h => rreadsMay_any a n c z w hn h
  have CT := hide fun w h => rreadsThere_any s a n c z w hn h
  have HA := hide hA
  have b0 : Below w.heap.size w (w.alloc (.cells (arenaL s).toArray 23)) := by go_grown
  have B := blk_new w (arenaL s) 23
  have HR := hide (h.below b0 (Nat.le_refl _))
  have HA0 := hide (hA.below b0 (Nat.le_refl _))
  clear h hA hf
  unfold arenaA at *
  cases ha : amay s y
  · obtain ⟨e1, e2⟩ := good_no (goodOk_fit (d := d) (fitR_arena (n := n) (z := z) ha))
    rw [e1, e2]
    clear e1 e2
    go_enter Tryz.func92, Tryz.ntmps92
    go_wp2_with fail
    refine (CA.out _ HA0.out).mono ?_
    rintro e w1 ⟨rfl, hb⟩
    rw [ha]
    have b1 := Below.on b0 hb
    clear hb
    go_wp2
    go_ret2
    exact ⟨rfl, b1⟩
  · go_enter Tryz.func92, Tryz.ntmps92
    go_wp2_with fail
    refine (CA.out _ HA0.out).mono ?_
    rintro e w1 ⟨rfl, hb⟩
    rw [ha]
    have b1 := Below.on b0 hb
    have R1 := hide (HR.out.below hb (Nat.le_refl _))
    have B1 := hide (B.on hb)
    clear hb b0 HR HA0 B CA
    go_wp2_with fail
    refine (CR.out _ R1.out).mono ?_
    rintro e w2 ⟨rfl, hb⟩
    have b2 := Below.on b1 hb
    have R2 := hide (R1.out.below hb (Nat.le_refl _))
    have B2 := B1.out.on hb
    clear hb b1 R1 B1 CR
    cases hr : readsMay n z
    · have HE := hide (good_no (goodOk_fit (d := d) (fitR_reads (s := s) (y := y) hr)))
      clear B2
      go_wp2
      go_ret2
      exact ⟨ret_bool_int HE.out.1.symm HE.out.2.symm, b2⟩
    · cases hd : upToV d 254
      · have HE := hide (good_no (goodOk_id (s := s) (y := y) (n := n) (z := z) hd))
        clear B2
        have C := fun w => rid_any d w
        rw [hd] at C
        have CI := hide C
        clear C
        go_wp2_with (go_at_call 108; refine (CI.out _).mono ?_; rintro e w' ⟨rfl, rfl⟩)
        go_ret2
        exact ⟨ret_bool_int HE.out.1.symm HE.out.2.symm, b2⟩
      · have C := fun w => rid_any d w
        rw [hd] at C
        have CI := hide C
        clear C
        obtain ⟨⟨c0, c1, c2, c3⟩, f0, f1, f2, f3⟩ := B2.four
        go_wp2_with (go_at_call 108; refine (CI.out _).mono ?_; rintro e w' ⟨rfl, rfl⟩)
        refine (CT.out _ R2.out).mono ?_
        rintro e w3 ⟨rfl, hb⟩
        have b3 := Below.on b2 hb
        have R3 := hide (R2.out.below hb (Nat.le_refl _))
        have B3 := B2.on hb
        clear hb b2 R2 B2 CT c0 c1 c2 c3 f0 f1 f2 f3
        cases ht : allTo (thereP s z) n
        · have HE := hide (good_no (goodOk_fit (d := d) (fitR_there (s := s) (y := y) ht)))
          clear B3
          go_wp2
          go_ret2
          exact ⟨ret_bool_int HE.out.1.symm HE.out.2.symm, b3⟩
        · have HE := hide (good_yes (goodOk_mk (fitR_mk ha hr ht) hd))
          have HT := hide ht
          obtain ⟨dd0, dd1⟩ := upToV_yes hd
          clear ht hr ha hd CI
          go_wp2
          go_loopw [8] (fun i wr => ∃ k : Nat, k ≤ n ∧ i = .int .i64 k ∧ Hid (allTo (goodP y z d) k = true) ∧ Blk wr w.heap.size (arenaL s) ∧ (Row wr a (n * 3) fun i => .int .i64 (z i)) ∧ Below w.heap.size w wr) (fun i _ => n - (intOf i).toNat)
          case atStart => exact ⟨0, Nat.zero_le _, rfl, rfl, B3, R3.out, b3⟩
          case round =>
            clear B3 R3 b3
            obtain ⟨k, hk, rfl, HS, B, R, hb⟩ := hrel
            by_cases hlt : k < n
            · have i1 : (k : Int) < (n : Int) := by omega
              obtain ⟨b, off, rfl, hbl, d0, d1, d2⟩ := R.at3 k hlt
              obtain ⟨g, j, b', off', hg, hj, hg4, hjn, hsa, hb', q0, q1, q2, hsm, hfr⟩ := there_word (allTo_get HT.out k hlt) (HA.out.below hb (Nat.le_refl _))
              have c1 := B.cell g _ (arenaL_get s hg4)
              rw [hsa] at c1
              rw [hg] at d0
              rw [hj] at d1
              have i2 : (g : Int) < 4 := by omega
              have i3 : (j : Int) < ((s g).n : Int) := by omega
              have HR := hide R
              have HB := hide hb
              have HBl := hide B
              have HG : Hid (goodP y z d k = ((y g (j * 3 + 1) == z (k * 3 + 2)) && ((y g (j * 3 + 2) == 0) || (y g (j * 3 + 2) == d + 1)))) := by
                show goodP y z d k = _
                unfold goodP
                rw [hsm, hfr]
              have bls := B.lt
              clear R hb B hsa hg hj hsm hfr
              go_upto_region 6 with (fail)
              go_region
              have HW : Hid (Blk (wr.alloc (.cells #[.int .i64 (y g (j * 3)), .int .i64 (y g (j * 3 + 1)), .int .i64 (y g (j * 3 + 2))] 107)).drew wr.heap.size [.int .i64 (y g (j * 3)), .int .i64 (y g (j * 3 + 1)), .int .i64 (y g (j * 3 + 2))]) := (blk_new wr [.int .i64 (y g (j * 3)), .int .i64 (y g (j * 3 + 1)), .int .i64 (y g (j * 3 + 2))] 107).drew
              have bb : Below wr.heap.size wr (wr.alloc (.cells #[.int .i64 (y g (j * 3)), .int .i64 (y g (j * 3 + 1)), .int .i64 (y g (j * 3 + 2))] 107)).drew := by go_grown
              replace HR := hide (HR.out.below bb (Nat.le_refl _))
              replace HBl := hide (HBl.out.on bb)
              replace HB := hide (Below.on HB.out bb)
              clear d0 d1 d2 q0 q1 q2 c1 bb i2 i3 hbl hb' bls
              generalize (wr.alloc (.cells #[.int .i64 (y g (j * 3)), .int .i64 (y g (j * 3 + 1)), .int .i64 (y g (j * 3 + 2))] 107)).drew = W at *
              obtain ⟨_, _, hsa, hbl, d0, d1, d2⟩ := HR.out.at3 k hlt
              cases hsa
              obtain ⟨⟨c0, c1, c2⟩, f0, f1, f2⟩ := HW.out.three
              have hw : IntKind.i64.wrap (d + 1) = d + 1 := IntWalk.i64_in _ ⟨by omega, by omega⟩
              generalize y g (j * 3) = x0, y g (j * 3 + 1) = x1, y g (j * 3 + 2) = x2 at *
              by_cases v0 : x1 = z (k * 3 + 2)
              · have v0' : (x1 != z (k * 3 + 2)) = false := by rw [v0]; simp
                by_cases v1 : x2 = 0
                · have HN : Hid (allTo (goodP y z d) (k + 1) = true) := by
                    show allTo (goodP y z d) (k + 1) = true
                    rw [allTo, HS.out, HG.out, v0, v1]
                    simp
                  subst v1
                  rw [v0] at c1
                  clear v0 v0' HG
                  go_wp2
                  go_quiet (fail)
                  go_wp2
                  go_roundw
                  case rel =>
                    first
                      | exact ⟨k + 1, by omega, by go_num, HN, HBl.out.drawn _, HR.out.drewN _, Below.drawn HB.out _⟩
                      | (repeat apply Exists.intro
                         exact ⟨⟨k + 1, by omega, by go_num, HN, HBl.out.drawn _, HR.out.drewN _, Below.drawn HB.out _⟩, rfl⟩)
                  case measure => simp [intOf]; omega
                · have v1' : (x2 != 0) = true := by simpa using v1
                  by_cases v2 : x2 = d + 1
                  · have HN : Hid (allTo (goodP y z d) (k + 1) = true) := by
                      show allTo (goodP y z d) (k + 1) = true
                      rw [allTo, HS.out, HG.out, v0, v2]
                      simp
                    subst v2
                    rw [v0] at c1
                    clear v0 v0' HG
                    go_wp2
                    go_quiet (fail)
                    go_wp2
                    go_roundw
                    case rel =>
                      first
                        | exact ⟨k + 1, by omega, by go_num, HN, HBl.out.drawn _, HR.out.drewN _, Below.drawn HB.out _⟩
                        | (repeat apply Exists.intro
                           exact ⟨⟨k + 1, by omega, by go_num, HN, HBl.out.drawn _, HR.out.drewN _, Below.drawn HB.out _⟩, rfl⟩)
                    case measure => simp [intOf]; omega
                  · have v2' : (x2 != d + 1) = true := by simpa using v2
                    have HN : Hid (allTo (goodP y z d) n = false) := allTo_no k hlt (by rw [HG.out, beq_eq_false_iff_ne.2 v1, beq_eq_false_iff_ne.2 v2]; simp)
                    rw [v0] at c1
                    clear v0 v0' HG
                    go_wp2
                    go_quiet (fail)
                    go_wp2
                    go_ret2
                    exact ⟨ret_bool_int (by rw [HE.out.1, HN.out]) HE.out.2.symm, Below.drawn HB.out _⟩
              · have v0' : (x1 != z (k * 3 + 2)) = true := by simpa using v0
                have HN : Hid (allTo (goodP y z d) n = false) := allTo_no k hlt (by rw [HG.out, beq_eq_false_iff_ne.2 v0]; rfl)
                clear HG
                go_wp2
                go_quiet (fail)
                go_wp2
                go_ret2
                exact ⟨ret_bool_int (by rw [HE.out.1, HN.out]) HE.out.2.symm, Below.drawn HB.out _⟩
            · obtain rfl : k = n := by omega
              go_wp2
              go_ret2
              exact ⟨ret_bool_int (by rw [HE.out.1, HS.out]) HE.out.2.symm, hb⟩
end Go.Proofs.YtnjognmnbpcaaaaGreat
namespace Go.Proofs.YtnjognmnbpcaaaaGreat
open Go.RowKit
set_option linter.unusedSimpArgs false
set_option linter.unusedVariables false
/-- One read's numbers. -/
def oneR (l i v : Int) : Nat → Int := putR (fun _ => 0) 0 l i v
theorem Blk.read {w : World} {b : Nat} {l i v : Int} (h : Blk w b [.int .i64 l, .int .i64 i, .int .i64 v]) : Row w (some ⟨b, 0, none⟩) (1 * 3) fun j => .int .i64 (oneR l i v j) := by
  refine Own.row ⟨_, h, fun j hj => ?_⟩
  have : j = 0 ∨ j = 1 ∨ j = 2 := by omega
  rcases this with rfl | rfl | rfl <;> rfl
theorem readsMay_one (l i v : Int) : readsMay 1 (oneR l i v) = readMay l i v := by
  show ((true && readMay l i v) && (true && noneTo (oneR l i v) l i 0) && true) = _
  rw [Bool.true_and, Bool.and_true, show noneTo (oneR l i v) l i 0 = true from rfl, Bool.and_self, Bool.and_true]
/-- What With hands back: in new memory the reads and the one more, or nothing. -/
def WithPost (n : Nat) (z : Nat → Int) (l i v : Int) (w : World) (e : Ending) (w' : World) : Prop :=
  ∃ x : Sl, e = .returned (.tuple #[.slice x.a x.n x.c, .int .i64 (withE n z l i v)]) ∧ (x.a = none → x.n = 0 ∧ x.c = 0) ∧ x.n ≤ x.c ∧ x.n = withN n z l i v ∧ (withOk n z l i v = false → x = ⟨none, 0, 0⟩) ∧
    (0 < x.n → ∃ b, x.a = some ⟨b, 0, none⟩ ∧ w.heap.size ≤ b ∧ b < w'.heap.size ∧ Own w' b (x.n * 3) (intF (putR z n l i v))) ∧ Below w.heap.size w w'
theorem with_no {n : Nat} {z : Nat → Int} {l i v : Int} {w w' : World} (h : withOk n z l i v = false) (hb : Below w.heap.size w w') : WithPost n z l i v w (.returned (.tuple #[.slice none 0 0, .int .i64 900])) w' :=
  ⟨⟨none, 0, 0⟩, by unfold withE; rw [h]; rfl, fun _ => ⟨rfl, rfl⟩, Nat.le_refl _, by unfold withN; rw [h]; rfl, fun _ => rfl, fun hp => absurd hp (Nat.lt_irrefl 0), hb⟩
/-- The reads as they are. -/
theorem with_old {n : Nat} {z : Nat → Int} {l i v : Int} {w w' : World} {a : Option Addr} {c : Nat} (h : withOk n z l i v = true) (hn : noneTo z l i n = false) (hb : Below w.heap.size w w')
    (hc : n ≤ c) (ha : a = none → n = 0 ∧ c = 0) (ho : 0 < n → ∃ b, a = some ⟨b, 0, none⟩ ∧ w.heap.size ≤ b ∧ b < w'.heap.size ∧ Own w' b (n * 3) (intF z)) : WithPost n z l i v w (.returned (.tuple #[.slice a n c, .int .i64 0])) w' := by
  refine ⟨⟨a, n, c⟩, by unfold withE; rw [h]; rfl, ha, hc, by unfold withN; rw [h, hn]; rfl, (fun h' => by rw [h] at h'; cases h'), fun hp => ?_, hb⟩
  obtain ⟨b, e1, e2, e3, e4⟩ := ho hp
  exact ⟨b, e1, e2, e3, e4.congr fun j hj => by unfold intF; rw [putR_old hj]⟩
/-- The reads, and one more. -/
theorem with_new {n : Nat} {z : Nat → Int} {l i v : Int} {w w' : World} {a : Option Addr} {c : Nat} (h : withOk n z l i v = true) (hn : noneTo z l i n = true) (hb : Below w.heap.size w w')
    (hc : n + 1 ≤ c) (ho : 0 < n + 1 → ∃ b, a = some ⟨b, 0, none⟩ ∧ w.heap.size ≤ b ∧ b < w'.heap.size ∧ Own w' b ((n + 1) * 3) (intF (putR z n l i v))) : WithPost n z l i v w (.returned (.tuple #[.slice a (n + 1) c, .int .i64 0])) w' := by
  obtain ⟨b, e1, e2, e3, e4⟩ := ho (by omega)
  refine ⟨⟨a, n + 1, c⟩, by unfold withE; rw [h]; rfl, (fun ha => by rw [e1] at ha; cases ha), hc, by unfold withN; rw [h, hn]; rfl, (fun h' => by rw [h] at h'; cases h'), fun hp => ⟨b, e1, e2, e3, e4⟩, hb⟩
theorem putR_row (z : Nat → Int) (n : Nat) (l i v : Int) : rowL (intF z) (n * 3) ++ [.int .i64 l, .int .i64 i, .int .i64 v] = rowL (intF (putR z n l i v)) ((n + 1) * 3) := by
  obtain ⟨e0, e1, e2⟩ := putR_new z n l i v
  rw [show (n + 1) * 3 = n * 3 + 3 by omega, rowL_add]
  congr 1
  · exact rowL_congr fun j hj => by unfold intF; rw [putR_old hj]
  · show _ = [intF (putR z n l i v) (n * 3 + 0), intF (putR z n l i v) (n * 3 + 1), intF (putR z n l i v) (n * 3 + 2)]
    unfold intF
    rw [Nat.add_zero, e0, e1, e2]
theorem withOk_mk {n : Nat} {z : Nat → Int} {l i v : Int} (h : readsMay n z = true) (hr : readMay l i v = true) : withOk n z l i v = (!noneTo z l i n || decide (n + 1 ≤ 16)) := by
  rw [withOk, h, hr]; rfl
theorem withOk_reads {n : Nat} {z : Nat → Int} {l i v : Int} (h : readsMay n z = false) : withOk n z l i v = false := by rw [withOk, h]; rfl
theorem withOk_read {n : Nat} {z : Nat → Int} {l i v : Int} (h : readMay l i v = false) : withOk n z l i v = false := by rw [withOk, h, Bool.and_false, Bool.false_and]
set_option maxRecDepth 10000 in
set_option maxHeartbeats 4000000 in
theorem rwithRead_any (a : Option Addr) (n c : Nat) (z : Nat → Int) (l i v : Int) (w : World) (hn : n ≤ 1152921504606846976) (ha : a = none → n = 0 ∧ c = 0) (h : Row w a (n * 3) fun i => .int .i64 (z i)) :
    Calls Tryz.prog 112 #[.slice a n c, wordA l i v] w (WithPost n z l i v w) := by
  obtain ⟨i0, hi, hz0, hz1, hz2⟩ := info_parts Tryz.infoRead
  have CR := hide fun w h => rreadsMay_any a n c z w hn h
  have C1 := hide fun b w h => rreadsMay_any (some ⟨b, 0, none⟩) 1 1 (oneR l i v) w (by omega) h
  rw [readsMay_one] at C1
  have b0 : Below w.heap.size w (w.alloc (.cells #[.int .i64 l, .int .i64 i, .int .i64 v] 82)) := by go_grown
  have B := blk_new w [.int .i64 l, .int .i64 i, .int .i64 v] 82
  have HR := hide (h.below b0 (Nat.le_refl _))
  clear h
  unfold wordA
  go_enter Tryz.func112, Tryz.ntmps112
  go_wp2_with fail
  refine (CR.out _ HR.out).mono ?_
  rintro e w1 ⟨rfl, hb⟩
  have b1 := Below.on b0 hb
  have R1 := hide (HR.out.below hb (Nat.le_refl _))
  have B1 := B.on hb
  clear hb b0 HR B CR
  cases hr : readsMay n z
  · have HN := hide (withOk_reads (l := l) (i := i) (v := v) hr)
    clear B1
    go_wp2
    go_ret2
    exact with_no HN.out b1
  · obtain ⟨⟨c0, c1, c2⟩, f0, f1, f2⟩ := B1.three
    have bl := B1.lt
    go_wp2_with fail
    have bb := (Below.refl w1.heap.size w1).alloc (Nat.le_refl _) (.cells #[.int .i64 l, .int .i64 i, .int .i64 v] 82)
    refine (C1.out _ _ (blk_new w1 [.int .i64 l, .int .i64 i, .int .i64 v] 82).read).mono ?_
    rintro e w2 ⟨rfl, hb⟩
    replace bb := Below.on bb hb
    have b2 := Below.on b1 bb
    have R2 := hide (R1.out.below bb (Nat.le_refl _))
    have B2 := B1.on bb
    have s2 := b2.size
    have s1 := b1.size
    clear hb b1 R1 bb B1 C1 c0 c1 c2 f0 f1 f2
    cases hm : readMay l i v
    · have HN := hide (withOk_read (n := n) (z := z) hm)
      clear B2
      go_wp2
      go_ret2
      exact with_no HN.out b2
    · have HOK := hide (withOk_mk hr hm)
      have n16 := (readsMay_get hr).2.2
      have hown : (w2.alloc (.cells #[] 82)).ownsRow w.heap.size 82 3 (.slice (some ⟨w2.heap.size, 0, none⟩) 0 0) 0 [] := World.ownsRow_made w2 #[] 0 s2 (by decide) rfl
      have HO := hide hown
      have bb := (Below.refl w2.heap.size w2).alloc (Nat.le_refl _) (.cells #[] 82)
      have R3 := hide (R2.out.below bb (Nat.le_refl _))
      have HA := hide ha
      clear hown hr hm ha bb
      go_wp2_with (at_builtin; refine wpList_append_row rfl (.tmp 17) (.tmp 18) 41 rfl w.heap.size 82 i0 (.agg #[.int .i64 0, .int .i64 0, .int .i64 0]) 3 24 Tryz.underlying41 hi hz0 hz1 hz2 rfl (by decide) _ _ _ rfl (unhide HO) a n c (fun i => .int .i64 (z i)) rfl (unhide HA) (unhide R3) (fun _ => rfl) ?_ ?_ ?_ ?_)
      · unfold maxLen; omega
      · omega
      · simp; omega
      · intro v' w3 hown' hg
        have bw : Below w2.heap.size w2 w3 := ((Below.refl w2.heap.size w2).alloc (Nat.le_refl _) (.cells #[] 82)).grown hg (by simp) (by intro j hj; simp [Value.ownBlock] at hj; omega)
        have hown2 : w3.ownsRow w.heap.size 82 3 v' n (rowL (intF z) (n * 3)) := hown'
        obtain ⟨xa, xc, rfl, _⟩ := slice_of_owns hown2
        have HO2 := hide hown2
        have R4 := hide (R2.out.below bw (Nat.le_refl _))
        have B3 := B2.on bw
        have b3 := Below.on b2 bw
        clear hown' hg hown2 HO R2 R3 bw B2 b2
        go_wp2
        go_loopw [7] (fun j wr => ∃ k : Nat, k ≤ n ∧ j = .int .i64 k ∧ Hid (noneTo z l i k = true) ∧ Hid (wr.ownsRow w.heap.size 82 3 (.slice xa n xc) n (rowL (intF z) (n * 3))) ∧ Blk wr w.heap.size [.int .i64 l, .int .i64 i, .int .i64 v] ∧ Hid (Row wr a (n * 3) fun i => .int .i64 (z i)) ∧ Below w.heap.size w wr) (fun j _ => n - (intOf j).toNat)
        case atStart => exact ⟨0, Nat.zero_le _, rfl, rfl, HO2, B3, R4, b3⟩
        case round =>
          clear HO2 B3 R4 b3
          obtain ⟨k, hk, rfl, HS, HO, B, HR, hb⟩ := hrel
          obtain ⟨⟨c0, c1, c2⟩, f0, f1, f2⟩ := B.three
          have bl2 := B.lt
          by_cases hlt : k < n
          · have i1 : (k : Int) < (n : Int) := by omega
            obtain ⟨b, off, hsa, hbl, d0, d1, d2⟩ := HR.out.at3 k hlt
            subst hsa
            by_cases v0 : z (k * 3) = l
            · by_cases v1 : z (k * 3 + 1) = i
              · have HN : Hid (noneTo z l i n = false) := allTo_no k hlt (by unfold isWord; rw [v0, v1]; simp)
                rw [v0] at d0
                rw [v1] at d1
                clear v0 v1
                go_wp2
                go_quiet (fail)
                go_wp2
                go_ret2
                obtain ⟨_, _, e, hc, hnn, _, ho⟩ := slice_of_owns (owns_drawn HO.out nq)
                simp only [Value.slice.injEq, true_and] at e
                obtain ⟨rfl, rfl⟩ := e
                exact with_old (by rw [HOK.out, HN.out]; rfl) HN.out (Below.drawn hb _) hc hnn ho
              · have HN : Hid (noneTo z l i (k + 1) = true) := by
                  show allTo _ (k + 1) = true
                  rw [allTo, show allTo _ k = true from HS.out]
                  unfold isWord
                  rw [beq_eq_false_iff_ne.2 v1, Bool.and_false]
                  rfl
                have dv : decide (z (k * 3 + 1) = i) = false := decide_eq_false v1
                rw [v0] at d0
                clear v0
                go_wp2
                go_quiet (fail)
                go_wp2
                go_roundw
                case rel =>
                  first
                    | exact ⟨k + 1, by omega, by go_num, HN, owns_drawn HO.out _, B.drawn _, HR.out.drewN _, Below.drawn hb _⟩
                    | (repeat apply Exists.intro
                       exact ⟨⟨k + 1, by omega, by go_num, HN, owns_drawn HO.out _, B.drawn _, HR.out.drewN _, Below.drawn hb _⟩, rfl⟩)
                case measure => simp [intOf]; omega
            · have HN : Hid (noneTo z l i (k + 1) = true) := by
                show allTo _ (k + 1) = true
                rw [allTo, show allTo _ k = true from HS.out]
                unfold isWord
                rw [beq_eq_false_iff_ne.2 v0, Bool.false_and]
                rfl
              have dv : decide (z (k * 3) = l) = false := decide_eq_false v0
              go_wp2
              go_quiet (fail)
              go_wp2
              go_roundw
              case rel =>
                first
                  | exact ⟨k + 1, by omega, by go_num, HN, owns_drawn HO.out _, B.drawn _, HR.out.drewN _, Below.drawn hb _⟩
                  | (repeat apply Exists.intro
                     exact ⟨⟨k + 1, by omega, by go_num, HN, owns_drawn HO.out _, B.drawn _, HR.out.drewN _, Below.drawn hb _⟩, rfl⟩)
              case measure => simp [intOf]; omega
          · obtain rfl : k = n := by omega
            have s3 := hb.size
            have HO3 := hide (HO.out.alloc (.cells #[.int .i64 l, .int .i64 i, .int .i64 v] 82))
            have HE := hide (owns_block HO.out)
            have HNW := hide (World.news_of_block (cs := #[.int .i64 l, .int .i64 i, .int .i64 v]) (t := 82) (fr := (0, 0)) (heap_alloc_new wr (.cells #[.int .i64 l, .int .i64 i, .int .i64 v] 82)))
            clear HO HR B
            go_wp2_with (at_builtin; refine wpList_append_own _ rfl (.tmp 45) (.tmp 47) 41 rfl w.heap.size 82 i0 (.agg #[.int .i64 0, .int .i64 0, .int .i64 0]) 3 24 Tryz.underlying41 hi hz0 hz1 hz2 rfl (by decide) _ _ _ rfl (unhide HO3) ⟨wr.heap.size, 0, none⟩ 1 1 [.int .i64 l, .int .i64 i, .int .i64 v] rfl rfl (unhide HNW) ?_ ?_ ?_ ?_ ?_)
            · simp [Value.oneCell']
            · unfold maxLen; omega
            · omega
            · first | omega | (simp only [World.size_alloc]; omega)
            · intro v' w4 hown1 hgrow _
              have b4 : Below w.heap.size w w4 := (hb.alloc s3 _).grown hgrow (by simp only [World.size_alloc]; omega) HE.out
              rw [putR_row] at hown1
              obtain ⟨ya, yc, rfl, hyc, _, _, ho⟩ := slice_of_owns hown1
              have HO4 := hide ho
              clear hown1 hgrow HO3 HNW HE hb ho
              by_cases h16 : k + 1 ≤ 16
              · have i6 : ¬ (16 : Int) < (k : Int) + 1 := by omega
                go_wp2
                go_ret2
                exact with_new (by rw [HOK.out, HS.out, decide_eq_true h16]; rfl) HS.out b4 hyc HO4.out
              · have i6 : (16 : Int) < (k : Int) + 1 := by omega
                go_wp2
                go_ret2
                exact with_no (by rw [HOK.out, HS.out, decide_eq_false h16]; rfl) b4
end Go.Proofs.YtnjognmnbpcaaaaGreat
namespace Go.Proofs.YtnjognmnbpcaaaaGreat
open Go.RowKit
set_option linter.unusedSimpArgs false
def MayPC : Prop := ∀ (a : Option Addr) (n c : Nat) (z : Nat → Int) (w : World), n ≤ 1152921504606846976 → (Row w a (n * 4) fun i => .int .i64 (z i)) → Calls Tryz.prog 141 #[.slice a n c] w fun e w' => e = .returned (.bool (progMay n z)) ∧ Below w.heap.size w w'
/-- A block of ints is a row of them. -/
theorem Blk.ints {w : World} {b : Nat} {l : List Value} (h : Blk w b l) (m : Nat) (z : Nat → Int) (hl : l = rowL (intF z) m) : Row w (some ⟨b, 0, none⟩) m fun i => .int .i64 (z i) := by
  subst hl
  exact Own.row ⟨_, h, fun i hi => rowL_get hi⟩
end Go.Proofs.YtnjognmnbpcaaaaGreat
namespace Go.Proofs.YtnjognmnbpcaaaaGreat
open Go.RowKit
set_option linter.unusedSimpArgs false
def MayIC : Prop := ∀ (i : Nat → Int) (w : World), Calls Tryz.prog 148 #[quadA i] w fun e w' => e = .returned (.bool (instMay i)) ∧ Below w.heap.size w w'
end Go.Proofs.YtnjognmnbpcaaaaGreat
namespace Go.Proofs.YtnjognmnbpcaaaaGreat
open Go.RowKit
def MayRC : Prop := ∀ (a : Option Addr) (n c : Nat) (z : Nat → Int) (w : World), n ≤ 1152921504606846976 → n ≤ c → (Row w a (n * 3) fun i => .int .i64 (z i)) → Calls Tryz.prog 124 #[.slice a n c] w fun e w' => e = .returned (.bool (readsMay n z)) ∧ Below w.heap.size w w'
end Go.Proofs.YtnjognmnbpcaaaaGreat
namespace Go.Proofs.YtnjognmnbpcaaaaGreat
open Go.RowKit
set_option linter.unusedSimpArgs false
set_option linter.unusedVariables false
theorem mayAlone_any (l i v : Int) (w : World) :
    Calls Tryz.prog 142 #[.agg #[.int .i64 l, .int .i64 i, .int .i64 v]] w fun e w' => e = .returned (.bool (readMay l i v)) ∧ Below w.heap.size w w' := by
  have C1 := fun w => may_any l w
  rw [mayV_up] at C1
  have C2 := fun w => askUpTo_any i 3 w
  have C3 := hide fun w => askUpTo_any v 65535 w
  unfold readMay
  cases hl : upToV l 3
  · rw [hl] at C1
    have H1 := hide C1
    clear C1 C2 C3
    go_enter Tryz.func142, Tryz.ntmps142
    go_wp2_with (go_at_call 121; refine (H1.out _).mono ?_; rintro e w' ⟨rfl, rfl⟩)
    go_ret
    exact ⟨rfl, by go_grown⟩
  · rw [hl] at C1
    have H1 := hide C1
    cases hi : upToV i 3
    · rw [hi] at C2
      have H2 := hide C2
      clear C1 C2 C3
      go_enter Tryz.func142, Tryz.ntmps142
      go_wp2_with (first | (go_at_call 121; refine (H1.out _).mono ?_; rintro e w' ⟨rfl, rfl⟩) | (go_at_call 70; refine (H2.out _).mono ?_; rintro e w' ⟨rfl, rfl⟩))
      go_ret
      exact ⟨rfl, by go_grown⟩
    · rw [hi] at C2
      have H2 := hide C2
      clear C1 C2
      go_enter Tryz.func142, Tryz.ntmps142
      go_wp2_with (first | (go_at_call 121; refine (H1.out _).mono ?_; rintro e w' ⟨rfl, rfl⟩) | (go_at_call 70; with_reducible refine (H2.out _).mono ?_; rintro e w' ⟨rfl, rfl⟩) | (go_at_call 70; with_reducible refine (C3.out _).mono ?_; rintro e w' ⟨rfl, rfl⟩))
      go_ret
      exact ⟨rfl, by go_grown⟩
set_option maxRecDepth 10000 in
set_option maxHeartbeats 1000000 in
theorem names_any (a : Option Addr) (n c : Nat) (z : Nat → Int) (l i v : Int) (w : World) (hn : n ≤ 1152921504606846976) (h : Row w a (n * 3) fun i => .int .i64 (z i)) :
    Calls Tryz.prog 143 #[.slice a n c, .agg #[.int .i64 l, .int .i64 i, .int .i64 v]] w fun e w' => e = .returned (.bool (!noneTo z l i n)) ∧ Below w.heap.size w w' := by
  have b0 : Below w.heap.size w (w.alloc (.cells #[.int .i64 l, .int .i64 i, .int .i64 v] 82)) := by go_grown
  have B := blk_new w [.int .i64 l, .int .i64 i, .int .i64 v] 82
  go_enter Tryz.func143, Tryz.ntmps143
  go_wp2
  go_loopw [9] (fun j wr => ∃ k : Nat, k ≤ n ∧ j = .int .i64 k ∧ Hid (noneTo z l i k = true) ∧ Blk wr w.heap.size [.int .i64 l, .int .i64 i, .int .i64 v] ∧ Below w.heap.size w wr) (fun j _ => n - (intOf j).toNat)
  case atStart => exact ⟨0, Nat.zero_le _, rfl, rfl, B, b0⟩
  case round =>
    clear b0 B
    obtain ⟨k, hk, rfl, HS, B, hb⟩ := hrel
    by_cases hlt : k < n
    · have i1 : (k : Int) < (n : Int) := by omega
      obtain ⟨b, off, hsa, hbl, d0, d1, d2⟩ := (h.below hb (Nat.le_refl _)).at3 k hlt
      subst hsa
      obtain ⟨⟨c0, c1, c2⟩, f0, f1, f2⟩ := B.three
      have bl := B.lt
      have s0 := hb.size
      clear h
      by_cases v0 : z (k * 3) = l
      · by_cases v1 : z (k * 3 + 1) = i
        · have HN : Hid (noneTo z l i n = false) := allTo_no k hlt (by unfold isWord; rw [v0, v1]; simp)
          rw [v0] at d0
          rw [v1] at d1
          clear v0 v1
          go_wp2
          go_ret
          exact ⟨ret_bool (by rw [HN.out]; rfl), by go_grown⟩
        · have HN : Hid (noneTo z l i (k + 1) = true) := by
            show allTo _ (k + 1) = true
            rw [allTo, show allTo _ k = true from HS.out]
            unfold isWord
            rw [beq_eq_false_iff_ne.2 v1, Bool.and_false]
            rfl
          rw [v0] at d0
          clear v0
          go_wp2
          go_roundw
          case rel => exact ⟨k + 1, by omega, by go_num, HN, B.alloc _, by go_grown⟩
          case measure => simp [intOf]; omega
      · have HN : Hid (noneTo z l i (k + 1) = true) := by
          show allTo _ (k + 1) = true
          rw [allTo, show allTo _ k = true from HS.out]
          unfold isWord
          rw [beq_eq_false_iff_ne.2 v0, Bool.false_and]
          rfl
        go_wp2
        go_roundw
        case rel => exact ⟨k + 1, by omega, by go_num, HN, B.alloc _, by go_grown⟩
        case measure => simp [intOf]; omega
    · obtain rfl : k = n := by omega
      clear h
      go_wp2
      go_ret
      exact ⟨ret_bool (by rw [HS.out]; rfl), hb⟩
set_option maxRecDepth 100000 in
theorem run_upto (b off n c m : Nat) (hm : m ≤ c) (W : World) : Sem.run Tryz.prog (Instr.slice 41 (.slice (some ⟨b, off, none⟩) n c) none (some (.int .i64 (m : Int))) none) W = .ok (.slice (some ⟨b, off, none⟩) m c) W := by
  rw [run_slice_h W 41 (some ⟨b, off, none⟩) n c (by kernel_rfl) .i64 (m : Int) (by omega) (by omega), Int.toNat_natCast]
  have e : Sem.run Tryz.prog (Go.sizeOf (Tryz.prog.elem 41)) W = .ok 3 W := by rfl
  rw [e]
  simp only [Result.andThen, sliced, Nat.sub_zero, Nat.zero_mul, Option.map_some, Go.WideShapes.add_plain, Nat.add_zero, ite_self]
set_option maxRecDepth 10000 in
set_option maxHeartbeats 2000000 in
theorem may_rc : MayRC := by
  intro a n c z w hn hc h
  by_cases h16 : n ≤ 16
  · have i16 : ¬ (16 : Int) < (n : Int) := by omega
    have CA := askAll_any 142 #[] #[] (aloneP z) a n c z w hn h (fun _ _ => rfl) (fun k hk W hb => mayAlone_any _ _ _ W)
    cases hl : allTo (aloneP z) n
    · rw [hl] at CA
      have HC := hide CA
      have HN := hide (readsMay_alones hl)
      clear CA h hl
      go_enter Tryz.func124, Tryz.ntmps124
      go_wp2_with fail
      refine HC.out.mono ?_
      rintro e w1 ⟨rfl, b1⟩
      clear HC
      go_wp2
      go_ret
      exact ⟨ret_bool HN.out.symm, b1⟩
    · rw [hl] at CA
      have HC := hide CA
      have HL := hide hl
      clear CA hl
      go_enter Tryz.func124, Tryz.ntmps124
      go_wp2_with fail
      refine HC.out.mono ?_
      rintro e w1 ⟨rfl, b1⟩
      clear HC
      go_wp2
      go_loopw [15] (fun i wr => ∃ k : Nat, k ≤ n ∧ i = .int .i64 k ∧ Hid (allTo (apartP z) k = true) ∧ Below w.heap.size w wr) (fun i _ => n - (intOf i).toNat)
      case atStart => exact ⟨0, Nat.zero_le _, rfl, rfl, b1⟩
      case round =>
        clear b1
        obtain ⟨k, hk, rfl, HS, hb⟩ := hrel
        by_cases hlt : k < n
        · have i1 : (k : Int) < (n : Int) := by omega
          obtain ⟨b, off, hsa, hbl, d0, d1, d2⟩ := (h.below hb (Nat.le_refl _)).at3 k hlt
          subst hsa
          have s0 := hb.size
          go_upto_region 6 with (fail)
          have b2 : Below w.heap.size w (wr.alloc (.cells #[.int .i64 (z (k * 3)), .int .i64 (z (k * 3 + 1)), .int .i64 (z (k * 3 + 2))] 82)) := by go_grown
          have B := blk_new wr [.int .i64 (z (k * 3)), .int .i64 (z (k * 3 + 1)), .int .i64 (z (k * 3 + 2))] 82
          clear d0 d1 d2 hbl hb
          change Blk (wr.alloc (.cells #[.int .i64 (z (k * 3)), .int .i64 (z (k * 3 + 1)), .int .i64 (z (k * 3 + 2))] 82)) wr.heap.size _ at B
          generalize wr.alloc (.cells #[.int .i64 (z (k * 3)), .int .i64 (z (k * 3 + 1)), .int .i64 (z (k * 3 + 2))] 82) = W at *
          obtain ⟨p0, p1, p2⟩ := B.kin3
          have hs := fun W => run_upto b off n c k (by omega) W
          have K : ∀ u : Kin W, _ := fun u => Calls.kin_of (u := u) (names_any (some ⟨b, off, none⟩) k c z (z (k * 3)) (z (k * 3 + 1)) (z (k * 3 + 2)) u.at_ (by omega) (((h.below b2 (Nat.le_refl _)).below u.below (Nat.le_refl _)).less (by omega)))
          have kne : Nonempty (Kin W) := kin_any W
          cases hp : noneTo z (z (k * 3)) (z (k * 3 + 1)) k
          · rw [hp] at K
            have HK := hide K
            have HN : Hid (readsMay n z = false) := readsMay_apart k hlt hp
            clear K hp
            refine wp_region_kin (by kernel_rfl) (by kernel_rfl) ?_
            repeat (go_big_quiet_step ((go_at_call 143; exact HK.out _)))
            refine wpQuiet_nil ?_
            rintro _ ⟨u, rfl⟩
            have b3 : Below w.heap.size w u.at_ := b2.trans (u.below.mono b2.size)
            clear p0 p1 p2 hs HK kne B b2 h
            generalize u.at_ = V at *
            clear u
            go_wp2
            go_ret
            exact ⟨ret_bool HN.out.symm, b3⟩
          · rw [hp] at K
            have HK := hide K
            have HN : Hid (allTo (apartP z) (k + 1) = true) := by
              show allTo (apartP z) (k + 1) = true
              rw [allTo, HS.out]
              exact hp
            clear K hp
            refine wp_region_kin (by kernel_rfl) (by kernel_rfl) ?_
            repeat (go_big_quiet_step ((go_at_call 143; exact HK.out _)))
            refine wpQuiet_nil ?_
            rintro _ ⟨u, rfl⟩
            have b3 : Below w.heap.size w u.at_ := b2.trans (u.below.mono b2.size)
            clear p0 p1 p2 hs HK kne B b2 h
            generalize u.at_ = V at *
            clear u
            go_wp2
            go_roundw
            case rel => exact ⟨k + 1, by omega, by go_num, HN, b3⟩
            case measure => simp [intOf]; omega
        · obtain rfl : k = n := by omega
          clear h
          go_wp2
          go_ret
          exact ⟨ret_bool (readsMay_mk HL.out HS.out h16).symm, hb⟩
  · have i16 : (16 : Int) < (n : Int) := by omega
    clear h
    go_enter Tryz.func124, Tryz.ntmps124
    go_wp2
    go_ret
    exact ⟨ret_bool (readsMay_long (by omega)).symm, Below.refl _ _⟩
end Go.Proofs.YtnjognmnbpcaaaaGreat
namespace Go.Proofs.YtnjognmnbpcaaaaGreat
open Go.RowKit
set_option linter.unusedSimpArgs false
/-- The function that May hands to the library: a word may not be. -/
theorem lit_any (v n k : Int) (w : World) :
    Calls Tryz.prog 138 #[wordA v n k] w fun e w' => e = .returned (.bool (!wmay v n k)) ∧ Below w.heap.size w w' := by
  unfold wordA
  go_enter Tryz.func138, Tryz.ntmps138
  go_wp2_with fail
  refine (wmay_any _ _ _ _).mono ?_
  rintro e w1 ⟨rfl, hb1⟩
  have b1 : Below w.heap.size w w1 := Below.on (by go_grown) hb1
  clear hb1
  go_wp2
  go_ret
  exact ⟨rfl, b1⟩
/-- The place of the first of the words behind k that may not be, or -1. -/
theorem idx_any (a : Option Addr) (n c : Nat) (z : Nat → Int) (w : World) (hn : n ≤ 1152921504606846976) (h : Row w a (n * 3) fun i => .int .i64 (z i)) :
    Calls Tryz.prog 146 #[.slice a n c, .func (.func 138) #[] #[]] w fun e w' => (∃ i : Int, e = .returned (.int .i64 i) ∧ (0 ≤ i ↔ wordsTo z n = false)) ∧ Below w.heap.size w w' := by
  go_enter Tryz.func146, Tryz.ntmps146
  go_wp2
  go_loopw [8] (fun i wr => ∃ k : Nat, k ≤ n ∧ i = .int .i64 k ∧ wordsTo z k = true ∧ Below w.heap.size w wr) (fun i _ => n - (intOf i).toNat)
  case atStart => exact ⟨0, Nat.zero_le _, rfl, rfl, by go_grown⟩
  case round =>
    obtain ⟨k, hk, rfl, hs, hb⟩ := hrel
    have HS := hide hs
    clear hs
    by_cases hlt : k < n
    · have i1 : (k : Int) < (n : Int) := by omega
      obtain ⟨b, off, hsa, _, d0, d1, d2⟩ := (h.below hb (Nat.le_refl _)).at3 k hlt
      subst hsa
      cases hv : wmay (z (k * 3)) (z (k * 3 + 1)) (z (k * 3 + 2))
      · go_wp2_with fail
        refine (lit_any _ _ _ _).mono ?_
        rintro e w1 ⟨rfl, hb1⟩
        rw [hv]
        have b1 : Below w.heap.size w w1 := Below.on hb hb1
        clear hb1 d0 d1 d2
        go_wp2
        go_ret
        exact ⟨⟨_, rfl, fun _ => wordsTo_no k hlt hv, fun _ => by omega⟩, b1⟩
      · go_wp2_with fail
        refine (lit_any _ _ _ _).mono ?_
        rintro e w1 ⟨rfl, hb1⟩
        rw [hv]
        have b1 : Below w.heap.size w w1 := Below.on hb hb1
        have HN : Hid (wordsTo z (k + 1) = true) := by
          show wordsTo z (k + 1) = true
          rw [wordsTo, HS.out, hv]
          rfl
        clear hb1 d0 d1 d2 hb
        go_wp2
        go_roundw
        case rel => exact ⟨k + 1, by omega, by go_num, HN.out, b1⟩
        case measure => simp [intOf]; omega
    · obtain rfl : k = n := by omega
      go_wp2
      go_ret
      exact ⟨⟨_, rfl, fun h => by omega, fun h => by rw [HS.out] at h; cases h⟩, hb⟩
theorem has_any (a : Option Addr) (n c : Nat) (z : Nat → Int) (w : World) (hn : n ≤ 1152921504606846976) (h : Row w a (n * 3) fun i => .int .i64 (z i)) :
    Calls Tryz.prog 137 #[.slice a n c, .func (.func 138) #[] #[]] w fun e w' => e = .returned (.bool (!wordsTo z n)) ∧ Below w.heap.size w w' := by
  go_enter Tryz.func137, Tryz.ntmps137
  go_wp2_with fail
  refine (idx_any a n c z _ hn h).mono ?_
  rintro e w1 ⟨⟨i, rfl, hi⟩, hb1⟩
  have HI := hide hi
  clear hi
  go_wp2
  go_ret
  refine ⟨ret_bool ?_, hb1⟩
  cases e : wordsTo z n
  · exact decide_eq_true (HI.out.2 e)
  · refine decide_eq_false fun h => ?_
    have := HI.out.1 h
    rw [e] at this
    cases this
theorem oneMayNotBe_any (a : Option Addr) (n c : Nat) (z : Nat → Int) (w : World) (hn : n ≤ 1152921504606846976) (h : Row w a (n * 3) fun i => .int .i64 (z i)) :
    Calls Tryz.prog 116 #[.slice a n c] w fun e w' => e = .returned (.bool (!wordsTo z n)) ∧ Below w.heap.size w w' := by
  go_enter Tryz.func116, Tryz.ntmps116
  go_wp2_with fail
  refine (has_any a n c z _ hn h).mono ?_
  rintro e w1 ⟨rfl, hb1⟩
  go_wp2
  go_ret
  exact ⟨rfl, hb1⟩
/-- A level of an arena that lies in a slot. -/
theorem index_at (s : Nat → Sl) {k : Nat} (hk : k < 4) (W : World) :
    Sem.run Tryz.prog (Instr.index 23 (.agg #[.slice (s 0).a (s 0).n (s 0).c, .slice (s 1).a (s 1).n (s 1).c, .slice (s 2).a (s 2).n (s 2).c, .slice (s 3).a (s 3).n (s 3).c]) (.int .i64 (k : Int))) W = .ok (.slice (s k).a (s k).n (s k).c) W := by
  have : k = 0 ∨ k = 1 ∨ k = 2 ∨ k = 3 := by omega
  rcases this with rfl | rfl | rfl | rfl <;> simp [Instr.index, Tryz.underlying23, asIntOf, go_sem]
set_option maxHeartbeats 1000000 in
theorem may_c : MayC := by
  intro s z w hf h
  have hn := hf.short
  clear hf
  unfold arenaA amay
  go_enter Tryz.func96, Tryz.ntmps96
  go_wp2
  go_loopw [6] (fun i wr => ∃ k : Nat, k ≤ 4 ∧ i = .int .i64 k ∧ lvTo s z k = true ∧ Below w.heap.size w wr) (fun i _ => 4 - (intOf i).toNat)
  case atStart => exact ⟨0, Nat.zero_le _, rfl, rfl, by go_grown⟩
  case round =>
    obtain ⟨k, hk, rfl, hs, hb⟩ := hrel
    have HS := hide hs
    clear hs
    by_cases hlt : k < 4
    · have i1 : (k : Int) < 4 := by omega
      have HK := hide (hn k hlt)
      have HR := hide ((h.below hb (Nat.le_refl _)) k hlt)
      have hx := fun W => index_at s hlt W
      clear h hn
      by_cases h4 : (s k).n ≤ 4
      · have i2 : ¬ (4 : Int) < ((s k).n : Int) := by omega
        cases hv : wordsTo (z k) (s k).n
        · go_wp2_with fail
          refine (oneMayNotBe_any _ _ _ (z k) _ HK.out HR.out).mono ?_
          rintro e w1 ⟨rfl, hb1⟩
          rw [hv]
          have b1 : Below w.heap.size w w1 := Below.on hb hb1
          clear hb1
          go_wp2
          go_ret
          exact ⟨ret_bool (lvTo_no k hlt (by rw [lvMay, hv, Bool.and_false])).symm, b1⟩
        · go_wp2_with fail
          refine (oneMayNotBe_any _ _ _ (z k) _ HK.out HR.out).mono ?_
          rintro e w1 ⟨rfl, hb1⟩
          rw [hv]
          have b1 : Below w.heap.size w w1 := Below.on hb hb1
          have HN : Hid (lvTo s z (k + 1) = true) := by
            show lvTo s z (k + 1) = true
            rw [lvTo, HS.out, lvMay_mk h4 hv]
            rfl
          clear hb1
          go_wp2
          go_roundw
          case rel => exact ⟨k + 1, by omega, by go_num, HN.out, b1⟩
          case measure => simp [intOf]; omega
      · have i2 : (4 : Int) < ((s k).n : Int) := by omega
        go_wp2
        go_ret
        exact ⟨ret_bool (lvTo_no k hlt (lvMay_long (by omega))).symm, hb⟩
    · obtain rfl : k = 4 := by omega
      clear h hn
      go_wp2
      go_ret
      exact ⟨ret_bool HS.out.symm, hb⟩
end Go.Proofs.YtnjognmnbpcaaaaGreat
namespace Go.Proofs.YtnjognmnbpcaaaaGreat
open Go.RowKit
set_option linter.unusedSimpArgs false
set_option linter.unusedVariables false
set_option maxHeartbeats 1000000 in
theorem anewWord_any (s : Sl) (z : Nat → Int) (w : World) (hb8 : s.n * 24 ≤ 140737488351232) (ha : s.a = none → s.n = 0 ∧ s.c = 0) (h : Row w s.a (s.n * 3) (intF z)) :
    Calls Tryz.prog 72 #[.slice s.a s.n s.c] w fun e w' => ∃ x : Sl, e = .returned (.slice x.a x.n x.c) ∧ x.n = s.n ∧ ((x.a = none → x.n = 0 ∧ x.c = 0) ∧ x.n ≤ x.c) ∧ (0 < x.n → ∃ b, x.a = some ⟨b, 0, none⟩ ∧ w.heap.size ≤ b ∧ b < w'.heap.size ∧ Own w' b (x.n * 3) (intF z)) ∧ Below w.heap.size w w' := by
  obtain ⟨i0, hi, hz0, hz1, hz2⟩ := info_parts Tryz.infoWord
  obtain ⟨sa, sn, sc⟩ := s
  replace hb8 : sn * 24 ≤ 140737488351232 := hb8
  go_enter Tryz.func72, Tryz.ntmps72
  cases sa with
  | none =>
    obtain ⟨rfl, rfl⟩ := ha rfl
    go_wp2
    go_ret
    exact ⟨⟨none, 0, 0⟩, rfl, rfl, ⟨fun _ => ⟨rfl, rfl⟩, Nat.le_refl _⟩, fun h => absurd h (Nat.lt_irrefl 0), Below.refl _ _⟩
  | some ad =>
    have hown : w.ownsRow w.heap.size 107 3 (.slice none 0 0) 0 [] := World.ownsRow_nil _ _ _ _
    have HO := hide hown
    have HR := hide (Row.news h)
    have HL := hide (rowL_len (intF z) (sn * 3))
    have H1 := hide (rowL_one (f := intF z) (m := sn * 3) fun _ _ => rfl)
    clear hown h ha
    go_wp2_with (at_builtin; refine wpList_append_own _ rfl (.const (.slice none 0 0)) (.tmp 3) 22 rfl w.heap.size 107 i0 (.agg #[.int .i64 0, .int .i64 0, .int .i64 0]) 3 24 Tryz.underlying22 hi hz0 hz1 hz2 rfl (by decide) _ _ _ rfl (unhide HO) ad sn sc (rowL (intF z) (sn * 3)) rfl (unhide HL) (unhide HR) (unhide H1) ?_ ?_ ?_ ?_)
    · unfold maxLen; omega
    · omega
    · intro v' w1 hown' hg _
      have hown2 : w1.ownsRow w.heap.size 107 3 v' sn (rowL (intF z) (sn * 3)) := by simpa using hown'
      have bw : Below w.heap.size w w1 := (Below.refl w.heap.size w).grown hg (Nat.le_refl _) (by intro j hj; simp [Value.ownBlock] at hj)
      obtain ⟨x, rfl, hxn, hxy, hxo⟩ : ∃ x : Sl, v' = .slice x.a x.n x.c ∧ x.n = sn ∧ ((x.a = none → x.n = 0 ∧ x.c = 0) ∧ x.n ≤ x.c) ∧ (0 < x.n → ∃ b, x.a = some ⟨b, 0, none⟩ ∧ w.heap.size ≤ b ∧ b < w1.heap.size ∧ Own w1 b (sn * 3) (intF z)) := by
        rcases own_of_owns hown2 with ⟨rfl, h0⟩ | ⟨g, cap, rfl, hg1, hg2, hg3, ho⟩
        · exact ⟨⟨none, 0, 0⟩, rfl, h0.symm, ⟨fun _ => ⟨rfl, rfl⟩, Nat.le_refl _⟩, fun h => absurd h (Nat.lt_irrefl 0)⟩
        · exact ⟨⟨some ⟨g, 0, none⟩, sn, cap⟩, rfl, rfl, ⟨(fun h => by cases h), hg2⟩, fun _ => ⟨g, rfl, hg1, ho.lt, ho⟩⟩
      clear hown' hown2 HO HR HL H1
      go_wp2
      go_ret
      exact ⟨x, rfl, hxn, hxy, fun h0 => by rw [hxn]; exact hxo h0, bw⟩
set_option maxHeartbeats 1000000 in
theorem anewWords_any (s : Nat → Sl) (z : Nat → Nat → Int) (w : World) (hf : Fit s) (h : Arn w s z) :
    Calls Tryz.prog 38 #[arenaA s] w fun e w' => ∃ t, e = .returned (arenaA t) ∧ (∀ g, g < 4 → (t g).n = (s g).n) ∧ Nilly t ∧ Fresh w.heap.size w'.heap.size w' t z 4 ∧ Below w.heap.size w w' := by
  unfold arenaA
  go_enter Tryz.func38, Tryz.ntmps38
  have HB := blk_new w (arenaL s) 23
  obtain ⟨⟨a0, a1, a2, a3⟩, e0, e1, e2, e3⟩ := HB.four
  go_wp2
  clear a0 a1 a2 a3 e0 e1 e2 e3 HB
  go_loopw [6] (fun i wr => ∃ (k : Nat) (t : Nat → Sl), k ≤ 4 ∧ i = .int .i64 k ∧ (∀ g, g < k → (t g).n = (s g).n ∧ (((t g).a = none → (t g).n = 0 ∧ (t g).c = 0) ∧ (t g).n ≤ (t g).c)) ∧ Blk wr w.heap.size (arenaL t) ∧ Blk wr (w.heap.size + 1) (arenaL nilS) ∧ Fresh (w.heap.size + 1 + 1) wr.heap.size wr t z k ∧ w.heap.size + 1 + 1 ≤ wr.heap.size ∧ Below w.heap.size w wr) (fun i _ => 4 - (intOf i).toNat)
  case atStart =>
    refine ⟨0, s, Nat.zero_le _, rfl, fun _ h => absurd h (Nat.not_lt_zero _), ?_, ?_, Fresh.zero _ _ _ _ _, ?_, by go_grown⟩
    · exact (blk_new w (arenaL s) 23).alloc _
    · have := blk_new (w.alloc (.cells (arenaL s).toArray 23)) (arenaL nilS) 23
      rw [World.size_alloc] at this
      exact this
    · simp only [World.size_alloc]; omega
  case round =>
    obtain ⟨k, t, hk, rfl, ht, B1, B2, hF, hz, hb⟩ := hrel
    by_cases hlt : k < 4
    · have i1 : (k : Int) < 4 := by omega
      have hx := fun W => index_at s hlt W
      have HT := hide ht
      have H := hide h
      have HFT := hide hf
      clear ht h hf
      go_wp2_with fail
      refine (anewWord_any (s k) (z k) wr (HFT.out k hlt).1 (HFT.out k hlt).2 ((H.out.below hb (Nat.le_refl _)) k hlt)).mono ?_
      rintro e w1 ⟨x, rfl, hxn, hxy, hxo, hw1⟩
      have B1' := B1.on hw1
      have B2' := B2.on hw1
      have hF' := hF.on hw1
      have hb' : Below w.heap.size w w1 := Below.on hb hw1
      have d2 := B1'.cell k _ (arenaL_get t hlt)
      have f2 := B1'.frozen k
      have z3 := hw1.size
      have HX := hide hxo
      have HXN := hide hxn
      have HXY := hide hxy
      have HF := hide hF'
      clear hw1 hxo hxn hxy hF' hF B1 B2 hb hx
      go_wp2
      go_roundw
      case rel =>
        refine ⟨k + 1, updS t k x, by omega, by go_num, fun g hg => ?_, ?_, B2'.far _ (by simp), ?_, by rw [World.size_setCell]; omega, hb'.setCell (by simp) _⟩
        · by_cases e : g = k
          · subst e; rw [updS_same]; exact ⟨HXN.out, HXY.out⟩
          · rw [updS_other t x e]; exact HT.out g (by omega)
        · rw [← arenaL_set t hlt]
          exact B1'.set k _
        · rw [World.size_setCell]
          refine (HF.out.far (a := ⟨w.heap.size, k, none⟩) (.slice x.a x.n x.c) (.inl (by simp; omega))).more hz z3 x fun hp => ?_
          obtain ⟨b, e, h1, h2, ho⟩ := HX.out hp
          exact ⟨b, e, h1, h2, ho.far _ (by simp; omega)⟩
      case measure => simp [intOf]; omega
    · obtain rfl : k = 4 := by omega
      obtain ⟨⟨c0, c1, c2, c3⟩, f0, f1, f2, f3⟩ := B1.four
      obtain ⟨⟨d0, d1, d2, d3⟩, g0, g1, g2, g3⟩ := B2.four
      have HT := hide ht
      clear ht h hf
      have y1 := B1.lt
      have y2 := B2.lt
      go_wp2
      refine bodyPost_ret (v := .agg #[.slice (t 0).a (t 0).n (t 0).c, .slice (t 1).a (t 1).n (t 1).c, .slice (t 2).a (t 2).n (t 2).c, .slice (t 3).a (t 3).n (t 3).c]) (by simp [results, Tryz.results38, go_sem, d0, d1, d2, d3]) rfl ⟨fun g => if g < 4 then t g else ⟨none, 0, 0⟩, rfl, fun g hg => ?_, fun g => ?_, ?_, by go_grown⟩
      · show (if g < 4 then t g else _).n = _
        rw [if_pos hg]; exact (HT.out g hg).1
      · show ((if g < 4 then t g else (⟨none, 0, 0⟩ : Sl)).a = none → _) ∧ _
        by_cases hg : g < 4
        · simp only [if_pos hg]; exact (HT.out g hg).2
        · simp [hg]
      · simp only [World.size_setCell]
        have hF4 := ((((hF.far (a := ⟨w.heap.size + 1, 0, none⟩) (.slice (t 0).a (t 0).n (t 0).c) (.inl (by simp))).far (a := ⟨w.heap.size + 1, 1, none⟩) (.slice (t 1).a (t 1).n (t 1).c) (.inl (by simp))).far (a := ⟨w.heap.size + 1, 2, none⟩) (.slice (t 2).a (t 2).n (t 2).c) (.inl (by simp))).far (a := ⟨w.heap.size + 1, 3, none⟩) (.slice (t 3).a (t 3).n (t 3).c) (.inl (by simp))).mono (by omega : w.heap.size ≤ w.heap.size + 1 + 1) (Nat.le_refl _)
        obtain ⟨β, h1, h2⟩ := hF4
        refine ⟨β, fun g hg h0 => ?_, fun g g' hgg hg h0 h0' => ?_⟩
        · have := h1 g hg
          simp only [if_pos hg] at h0 ⊢
          exact this h0
        · have := h2 g g' hgg hg
          simp only [if_pos hg, if_pos (Nat.lt_trans hgg hg)] at h0 h0'
          exact this h0 h0'
end Go.Proofs.YtnjognmnbpcaaaaGreat
namespace Go.Proofs.YtnjognmnbpcaaaaGreat
open Go.RowKit
set_option linter.unusedVariables false
section
variable {D : Nat → Prop} {W : World} {A : MacM} {M : PMach}
theorem MachOwn.sfact (h : MachOwn D W A M) {m : Nat} (hm : M.sess.length = m) : A.s.n = m ∧ (0 < m → ∃ b, A.s.a = some ⟨b, 0, none⟩ ∧ ∀ k, k < m → W.rangeAt b (k * 17) (sessOf (A.q k) (M.at k))) := by
  have hX := h.is.sess.1
  refine ⟨by omega, fun h0 => ?_⟩
  obtain ⟨b, e, _⟩ := h.sblk (i := 0) (by omega)
  refine ⟨b, e, fun k hk => ?_⟩
  obtain ⟨b2, off, e2, _, hr⟩ := h.is.sess.range (i := k) (by omega)
  rw [e] at e2; cases e2
  rw [Nat.zero_add] at hr
  exact hr
/-- The sessions' slice in the machine's block, the sessions' cells. -/
theorem MachOwn.scell (h : MachOwn D W A M) {b s m : Nat} (hb : Blk W b (machL A M)) (hm : M.sess.length = m) (e : A.s.a = some ⟨s, 0, none⟩) : W.cell? ⟨b, 9, none⟩ = some (.slice (some ⟨s, 0, none⟩) m A.s.c) ∧ ∀ k, k < m → W.rangeAt s (k * 17) (sessOf (A.q k) (M.at k)) := by
  have hX := h.is.sess.1
  refine ⟨by rw [← e, show m = A.s.n by omega]; exact hb.cell 9 _ rfl, fun k hk => ?_⟩
  obtain ⟨b2, off, e2, _, hr⟩ := h.is.sess.range (i := k) (by omega)
  rw [e] at e2; cases e2
  rw [Nat.zero_add] at hr
  exact hr
end
end Go.Proofs.YtnjognmnbpcaaaaGreat
