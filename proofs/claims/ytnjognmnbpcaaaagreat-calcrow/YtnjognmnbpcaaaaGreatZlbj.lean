/-
  The law CalcRow: sets and sums one behind the other. Nothing of a walk here.
-/
import Derived.Test.YtnjognmnbpcaaaaGreatZhCalcProg
import Derived.Test.YtnjognmnbpcaaaaGreatZlaj
namespace Go.Proofs.YtnjognmnbpcaaaaGreat
open Go.RowKit
set_option linter.unusedSimpArgs false
set_option linter.unusedVariables false
/-- What each row tells: a sum (1) or not (0), the register, the other register or the value. -/
structure CalG (T A V : Nat → Int) : Prop where
  code : ∀ j, T j = 0 ∨ T j = 1
  reg : ∀ j, 0 ≤ A j ∧ A j ≤ 3
  val : ∀ j, 0 ≤ V j ∧ V j ≤ 255
  few : ∀ j, T j = 1 → V j ≤ 3
def calL (T A V : Nat → Int) : Nat → List Int
  | 0 => []
  | k + 1 => calL T A V k ++ [T k, A k, V k, 0]
theorem calL_len (T A V : Nat → Int) : ∀ k, (calL T A V k).length = k * 4
  | 0 => rfl
  | k + 1 => by
    rw [calL, List.length_append, calL_len T A V k]
    show k * 4 + 4 = _
    omega
theorem calL_at {T A V : Nat → Int} : ∀ {k j : Nat}, j < k → lz (calL T A V k) (j * 4) = T j ∧ lz (calL T A V k) (j * 4 + 1) = A j ∧ lz (calL T A V k) (j * 4 + 2) = V j ∧ lz (calL T A V k) (j * 4 + 3) = 0
  | k + 1, j, h => by
    have hl := calL_len T A V k
    rw [calL]
    by_cases e : j < k
    · rw [lz_left (by omega), lz_left (by omega), lz_left (by omega), lz_left (by omega)]
      exact calL_at e
    · obtain rfl : j = k := by omega
      rw [lz_right (by omega), lz_right (by omega), lz_right (by omega), lz_right (by omega), hl, show j * 4 - j * 4 = 0 by omega, show j * 4 + 1 - j * 4 = 1 by omega, show j * 4 + 2 - j * 4 = 2 by omega, show j * 4 + 3 - j * 4 = 3 by omega]
      exact ⟨rfl, rfl, rfl, rfl⟩
/-- The registers behind the first j. -/
def calR (T A V : Nat → Int) : Nat → Nat → Int
  | 0 => fun _ => 0
  | j + 1 => if T j = 1 then updQ (calR T A V j) (A j).toNat ((calR T A V j (A j).toNat + calR T A V j (V j).toNat) % 256) else updQ (calR T A V j) (A j).toNat (V j)
theorem calR_in {T A V : Nat → Int} (h : CalG T A V) : ∀ j c, 0 ≤ calR T A V j c ∧ calR T A V j c ≤ 255
  | 0, c => ⟨Int.le_refl _, by show (0 : Int) ≤ 255; decide⟩
  | j + 1, c => by
    rw [calR]
    split
    · unfold updQ
      split
      · omega
      · exact calR_in h j c
    · unfold updQ
      split
      · exact h.val j
      · exact calR_in h j c
def calS (T A V : Nat → Int) (k j : Nat) : PSess := ⟨[3, 0, 3, 0, (j : Int), calR T A V j 0, calR T A V j 1, calR T A V j 2, calR T A V j 3, 0, 0, 0, 0, 0], calL T A V k, [], []⟩
def calM (T A V : Nat → Int) (k j : Nat) : PMach := begunM.setS 0 (calS T A V k j)
theorem begun_two : begunM.sess.length = 2 := by decide +kernel
theorem calM_at (T A V : Nat → Int) (k j : Nat) : (calM T A V k j).at 0 = calS T A V k j := PMach.at_setS (by rw [begun_two]; decide)
theorem calM_len (T A V : Nat → Int) (k j : Nat) : (calM T A V k j).sess.length = 2 := by
  show (begunM.sess.set 0 _).length = 2
  rw [List.length_set, begun_two]
theorem calM_begin (T A V : Nat → Int) (k : Nat) : begunM.setS 0 ((begunM.at 0).setL 0 (calL T A V k)) = calM T A V k 0 := by
  have h1 : (begunM.at 0).num = [3, 0, 3, 0, 0, 0, 0, 0, 0, 0, 0, 0, 0, 0] := by decide +kernel
  have h2 : (begunM.at 0).reads = [] := by decide +kernel
  have h3 : (begunM.at 0).writes = [] := by decide +kernel
  unfold calM calS
  show begunM.setS 0 ⟨(begunM.at 0).num, calL T A V k, (begunM.at 0).reads, (begunM.at 0).writes⟩ = _
  rw [h1, h2, h3]
  rfl
theorem calM_may {T A V : Nat → Int} (h : CalG T A V) {k j : Nat} (hk : k ≤ 16) (hj : j ≤ k) : machMay (calM T A V k j) = true := by
  have hb : machMay begunM = true := by decide +kernel
  refine machMay_turn hb (k := 0) (by rw [begun_two]; decide) (fun g hg => rfl) (machMay_parts hb).1 rfl rfl rfl (calM_len T A V k j) (fun i hi => PMach.at_ne hi) ?_ ?_
  · rw [calM_at]
    show (3 : Int) = _
    decide +kernel
  · rw [calM_at]
    have hpn : (calS T A V k j).pn = k := by
      show (calL T A V k).length / 4 = k
      rw [calL_len]
      omega
    have hins : ∀ i, i < k → instMay (instAt (lz (calL T A V k)) i) = true ∧ badJump (lz (calL T A V k)) k i = false := fun i hi => by
      obtain ⟨e0, e1, e2, e3⟩ := calL_at (T := T) (A := A) (V := V) hi
      have hr := h.reg i
      have hv := h.val i
      have e0' : instAt (lz (calL T A V k)) i 0 = T i := e0
      have e1' : instAt (lz (calL T A V k)) i 1 = A i := e1
      have e2' : instAt (lz (calL T A V k)) i 2 = V i := e2
      have e3' : instAt (lz (calL T A V k)) i 3 = 0 := e3
      refine ⟨?_, ?_⟩
      · rcases h.code i with hc | hc
        · rw [instMay_0 (e0'.trans hc), e1', e2', e3', upToV_of hr.1 hr.2, upToV_of hv.1 hv.2]
          rfl
        · rw [instMay_1 (e0'.trans hc), e1', e2', e3', upToV_of hr.1 hr.2, upToV_of hv.1 (h.few i hc)]
          rfl
      · unfold badJump
        rw [e0]
        rcases h.code i with hc | hc <;> rw [hc] <;> rfl
    have hth : allTo (instThere begunM.lens (lz (calL T A V k))) k = true := allTo_mk fun i hi => by
      obtain ⟨e0, _⟩ := calL_at (T := T) (A := A) (V := V) hi
      unfold instThere namesW
      rw [e0]
      rcases h.code i with hc | hc <;> rw [hc] <;> rfl
    have hreg : allUp (regsI (lz (calS T A V k j).num)) 255 4 = true := allUp_mk fun c hc => by
      have : c = 0 ∨ c = 1 ∨ c = 2 ∨ c = 3 := by omega
      rcases this with rfl | rfl | rfl | rfl
      · exact upToV_of (calR_in h j 0).1 (calR_in h j 0).2
      · exact upToV_of (calR_in h j 1).1 (calR_in h j 1).2
      · exact upToV_of (calR_in h j 2).1 (calR_in h j 2).2
      · exact upToV_of (calR_in h j 3).1 (calR_in h j 3).2
    have hst : startMay 3 0 3 k (lz (calL T A V k)) = true := by
      unfold startMay
      rw [progMay_mk (progTo_mk hins) hk]
      decide
    have hpc : upToV (j : Int) k = true := upToV_of (by omega) (by omega)
    unfold sessMayP sessMay wordsThere
    rw [hpn]
    rw [show lz (calS T A V k j).num 0 = 3 from rfl, show lz (calS T A V k j).num 1 = 0 from rfl, show lz (calS T A V k j).num 2 = 3 from rfl, show lz (calS T A V k j).num 3 = 0 from rfl, show lz (calS T A V k j).num 4 = (j : Int) from rfl, show lz (calS T A V k j).num 9 = 0 from rfl, show lz (calS T A V k j).num 10 = 0 from rfl, show lz (calS T A V k j).num 11 = 0 from rfl, show lz (calS T A V k j).num 12 = 0 from rfl, show lz (calS T A V k j).num 13 = 0 from rfl, show (calS T A V k j).prog = calL T A V k from rfl, show (calS T A V k j).reads = [] from rfl, show (calS T A V k j).writes = [] from rfl, show (calS T A V k j).tn = 0 from by simp [PSess.tn, calS], show (calS T A V k j).rn = 0 from by simp [PSess.rn, calS]]
    rw [hst, hth, hpc, hreg]
    decide
theorem calM_step {T A V : Nat → Int} (h : CalG T A V) {k j : Nat} (hk : k ≤ 16) (hj : j < k) : calcP (calM T A V k j) 0 = (calM T A V k (j + 1), 0) := by
  have hm := calM_may h hk (Nat.le_of_lt hj)
  have hl := calM_len T A V k j
  have hx := calM_at T A V k j
  have hh : hereP (calM T A V k j) ((0 : Nat) : Int) = true := by
    unfold hereP
    rw [hm, hl]
    rfl
  obtain ⟨e0, e1, e2, _⟩ := calL_at (T := T) (A := A) (V := V) hj
  have hins : ∀ c, (calS T A V k j).ins c = lz (calL T A V k) (j * 4 + c) := fun c => by
    show lz (calL T A V k) (((j : Int).toNat) * 4 + c) = _
    rw [Int.toNat_natCast]
  have hpn : (calS T A V k j).prog.length / 4 = k := by
    show (calL T A V k).length / 4 = k
    rw [calL_len]
    omega
  have hruns : (calS T A V k j).runs = true := by
    unfold PSess.runs
    rw [hpn]
    show (decide ((0 : Int) = 0) && decide ((j : Int) < (k : Int))) = true
    rw [decide_eq_true (by omega : (j : Int) < (k : Int))]
    rfl
  have hrun : runP (calS T A V k j) = T j := by
    unfold runP
    rw [hruns, hins 0, Nat.add_zero, e0]
    rfl
  have hr := h.reg j
  have hv := h.val j
  obtain ⟨a, ha⟩ : ∃ a : Nat, A j = a := ⟨(A j).toNat, by omega⟩
  have ha4 : a < 4 := by omega
  have hreg : ∀ c, c < 4 → regsI (lz (calS T A V k j).num) c = calR T A V j c := fun c hc => by
    have : c = 0 ∨ c = 1 ∨ c = 2 ∨ c = 3 := by omega
    rcases this with rfl | rfl | rfl | rfl <;> rfl
  have hup : allUp (regsI (lz (calS T A V k j).num)) 255 4 = true := allUp_mk fun c hc => by rw [hreg c hc]; exact upToV_of (calR_in h j c).1 (calR_in h j c).2
  have hR : ∀ c, c < 4 → calcR (calS T A V k j) c = calR T A V (j + 1) c := fun c hc => by
    unfold calcR
    rw [hrun, hins 1, hins 2, e1, e2, calR]
    rcases h.code j with hc0 | hc1
    · rw [if_pos hc0, if_neg (by omega), (set_yes (and3_mk hup (upToV_of hr.1 hr.2) (upToV_of hv.1 hv.2))).2]
      unfold updQ
      split
      · rfl
      · exact hreg c hc
    · have hf := h.few j hc1
      rw [if_neg (by omega), if_pos hc1, if_pos hc1, (add_yes (and3_mk hup (upToV_of hr.1 hr.2) (upToV_of hv.1 hf))).2]
      unfold updQ
      split
      · rw [hreg _ (by omega), hreg _ (by omega)]
      · exact hreg c hc
  have hT : calcTo (calS T A V k j) = (j : Int) + 1 := by
    unfold calcTo
    rw [if_neg (by rw [hrun]; rcases h.code j with hc | hc <;> omega)]
    rfl
  have hr3 : runP ((calM T A V k j).at 0) = 0 ∨ runP ((calM T A V k j).at 0) = 1 ∨ runP ((calM T A V k j).at 0) = 4 := by
    rw [hx, hrun]
    rcases h.code j with hc | hc
    · exact .inl hc
    · exact .inr (.inl hc)
  have key := calcP_yes (k := 0) hh hr3 (R := calcR (calS T A V k j)) (T := (j : Int) + 1) (by rw [hx]) (by rw [hx]; exact hT)
  rw [hR 0 (by decide), hR 1 (by decide), hR 2 (by decide), hR 3 (by decide)] at key
  refine key.trans ?_
  have h2 : 0 < begunM.sess.length := by rw [begun_two]; decide
  have e : ((calM T A V k j).doR 0 (calR T A V (j + 1) 0) (calR T A V (j + 1) 1) (calR T A V (j + 1) 2) (calR T A V (j + 1) 3)).doN 0 4 ((j : Int) + 1) = calM T A V k (j + 1) := by
    unfold PMach.doR calM
    rw [setS_doN' h2, setS_doN' h2, setS_doN' h2, setS_doN' h2, setS_doN' h2]
    rfl
  rw [e]
end Go.Proofs.YtnjognmnbpcaaaaGreat
