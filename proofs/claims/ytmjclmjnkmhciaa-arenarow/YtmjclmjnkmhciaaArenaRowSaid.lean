/-
  The law ArenaRow: words put in any row stand where they were put last. Its walk, if the four functions keep their statements.
-/
import Derived.Test.YtmjclmjnkmhciaaArenaAwake
import Derived.Test.YtmjclmjnkmhciaaPlain
import Derived.Deep.QuietTactic
import Derived.BigQuiet
namespace Go.Proofs.Ytmjclmjnkmhciaa
open Go.RowKit
set_option linter.unusedVariables false

/-- An arena of four words a level whose values are those of a row of sixteen. -/
def Sixteen (t : Nat → Sl) (z : Nat → Nat → Int) (x : Nat → Int) : Prop :=
  (∀ g, g < 4 → (t g).n = 4) ∧ Fit t ∧ amay t z = true ∧ ∀ g i, g < 4 → i < 4 → z g (i * 3) = x (g * 4 + i) ∧ z g (i * 3 + 1) = 0 ∧ z g (i * 3 + 2) = 0

theorem Sixteen.put {t t' : Nat → Sl} {z : Nat → Nat → Int} {x : Nat → Int} (h : Sixteen t z x) (hny : Nilly t') (ht : ∀ g, g < 4 → (t' g).n = (t g).n) {k : Nat} (hk : k < 16) (v : Int) (hv : upToV v 255 = true) :
    putOk t z ((k / 4 : Nat) : Int) ((k % 4 : Nat) : Int) v 0 0 = true ∧ Sixteen t' (putZ z (k / 4) (k % 4) v 0 0) (updZ x k v) := by
  obtain ⟨hn, hf, hm, hz⟩ := h
  have hw : wmay v 0 0 = true := wmay_of hv rfl rfl
  have hth : thereV t ((k / 4 : Nat) : Int) ((k % 4 : Nat) : Int) = true := thereV_mk (by omega) (by rw [hn _ (by omega)]; omega)
  refine ⟨by unfold putOk; rw [hm, hth, hw]; rfl, fun g hg => (ht g hg).trans (hn g hg), same_fit hny hf ht, put_may hm hw ht, fun g i hg hi => ?_⟩
  obtain ⟨a1, a2, a3⟩ := hz g i hg hi
  unfold putZ
  by_cases eg : g = k / 4
  · rw [if_pos eg]
    unfold putR updZ
    refine ⟨?_, ?_, ?_⟩ <;> (repeat' split) <;> omega
  · rw [if_neg eg]
    unfold updZ
    rw [if_neg (by omega)]
    exact ⟨a1, a2, a3⟩
theorem Sixteen.ok {t : Nat → Sl} {z : Nat → Nat → Int} {x : Nat → Int} (h : Sixteen t z x) {k : Nat} (hk : k < 16) (v : Int) (hv : upToV v 255 = true) : putOk t z ((k / 4 : Nat) : Int) ((k % 4 : Nat) : Int) v 0 0 = true := by
  obtain ⟨hn, _, hm, _⟩ := h
  unfold putOk
  rw [hm, thereV_mk (s := t) (g := k / 4) (k := k % 4) (by omega) (by rw [hn _ (by omega)]; omega), wmay_of hv rfl rfl]
  rfl
theorem Sixteen.get {t : Nat → Sl} {z : Nat → Nat → Int} {x : Nat → Int} (h : Sixteen t z x) {k : Nat} (hk : k < 16) : getW t z ((k / 4 : Nat) : Int) ((k % 4 : Nat) : Int) = wordA (x k) 0 0 ∧ getE t z ((k / 4 : Nat) : Int) ((k % 4 : Nat) : Int) = 0 := by
  obtain ⟨hn, _, hm, hz⟩ := h
  obtain ⟨e1, e2⟩ := get_at hm (g := k / 4) (k := k % 4) (by omega) (by rw [hn _ (by omega)]; omega)
  obtain ⟨a1, a2, a3⟩ := hz (k / 4) (k % 4) (by omega) (by omega)
  rw [e1, e2, a1, a2, a3, show k / 4 * 4 + k % 4 = k by omega]
  exact ⟨rfl, rfl⟩

theorem div4 (k : Nat) : (k : Int) / 4 = ((k / 4 : Nat) : Int) := by omega
theorem mod4 (k : Nat) : bits .and .i64 (k : Int) 3 = ((k % 4 : Nat) : Int) := by rw [mask3]; omega

set_option maxRecDepth 10000 in
set_option maxHeartbeats 4000000 in
theorem arenaRow_said (hNew : NewC) (hMay : MayC) (hGet : GetC) (hPut : PutC) (a0 : Option Addr) (n0 c0 : Nat) (z0 : Nat → Int) (w : World) (l0 : n0 * 8 ≤ 140737488351232) (r0 : Row w a0 n0 fun i => .int .i64 (z0 i)) :
    Calls Try.prog 7 #[.slice a0 n0 c0] w fun e w' => e = .returned (.bool true) ∧ Below w.heap.size w w' := by
  go_enter Try.func7, Try.ntmps7
  go_wp2_with fail
  refine (awake4_any hNew hMay hGet hPut _).mono ?_
  rintro e w1 ⟨rfl, b1⟩
  go_wp2_with fail
  have V : Held ((((w1.alloc (.cells #[.int .i64 0, .int .i64 0, .int .i64 0, .int .i64 0] 3)).alloc (.cells #[.int .i64 0, .int .i64 0, .int .i64 0, .int .i64 0] 3)).alloc (.cells #[.int .i64 0, .int .i64 0, .int .i64 0, .int .i64 0] 3)).alloc (.cells #[.int .i64 0, .int .i64 0, .int .i64 0, .int .i64 0] 3)) [(w1.heap.size, [0, 0, 0, 0].map (Value.int .i64)), (w1.heap.size + 1, [0, 0, 0, 0].map (Value.int .i64)), (w1.heap.size + 1 + 1, [0, 0, 0, 0].map (Value.int .i64)), (w1.heap.size + 1 + 1 + 1, [0, 0, 0, 0].map (Value.int .i64))] := by
    have e0 := blk_ints w1 [0, 0, 0, 0] 3
    have e1 := blk_ints (w1.alloc (.cells ([0, 0, 0, 0].map (Value.int .i64)).toArray 3)) [0, 0, 0, 0] 3
    have e2 := blk_ints ((w1.alloc (.cells ([0, 0, 0, 0].map (Value.int .i64)).toArray 3)).alloc (.cells ([0, 0, 0, 0].map (Value.int .i64)).toArray 3)) [0, 0, 0, 0] 3
    have e3 := blk_ints (((w1.alloc (.cells ([0, 0, 0, 0].map (Value.int .i64)).toArray 3)).alloc (.cells ([0, 0, 0, 0].map (Value.int .i64)).toArray 3)).alloc (.cells ([0, 0, 0, 0].map (Value.int .i64)).toArray 3)) [0, 0, 0, 0] 3
    simp only [World.size_alloc] at e1 e2 e3
    exact Held.cons (((e0.alloc _).alloc _).alloc _) (Held.cons ((e1.alloc _).alloc _) (Held.cons (e2.alloc _) (Held.cons e3 (Held.nil _))))
  refine (hNew (four ⟨some ⟨w1.heap.size, 0, none⟩, 4, 4⟩ ⟨some ⟨w1.heap.size + 1, 0, none⟩, 4, 4⟩ ⟨some ⟨w1.heap.size + 1 + 1, 0, none⟩, 4, 4⟩ ⟨some ⟨w1.heap.size + 1 + 1 + 1, 0, none⟩, 4, 4⟩) (fun _ => listZ [0, 0, 0, 0]) _ ?_ ?_).mono ?_
  · exact four_all ⟨by simp [four], fun h => by cases h⟩ ⟨by simp [four], fun h => by cases h⟩ ⟨by simp [four], fun h => by cases h⟩ ⟨by simp [four], fun h => by cases h⟩
  · exact four_all (V.at 0 rfl).ints (V.at 1 rfl).ints (V.at 2 rfl).ints (V.at 3 rfl).ints
  rintro e w2 ⟨t, rfl, hny, hF, hb, hok, hnn⟩
  clear hnn
  have ok1 : newOk (four ⟨some ⟨w1.heap.size, 0, none⟩, 4, 4⟩ ⟨some ⟨w1.heap.size + 1, 0, none⟩, 4, 4⟩ ⟨some ⟨w1.heap.size + 1 + 1, 0, none⟩, 4, 4⟩ ⟨some ⟨w1.heap.size + 1 + 1 + 1, 0, none⟩, 4, 4⟩) (fun _ => listZ [0, 0, 0, 0]) = true := rfl
  have e1 : newE (four ⟨some ⟨w1.heap.size, 0, none⟩, 4, 4⟩ ⟨some ⟨w1.heap.size + 1, 0, none⟩, 4, 4⟩ ⟨some ⟨w1.heap.size + 1 + 1, 0, none⟩, 4, 4⟩ ⟨some ⟨w1.heap.size + 1 + 1 + 1, 0, none⟩, 4, 4⟩) (fun _ => listZ [0, 0, 0, 0]) = 0 := rfl
  rw [e1]
  have htn := hok ok1
  have hS : Sixteen t (newZ (fun _ => listZ [0, 0, 0, 0])) (fun _ => 0) := by
    refine ⟨fun g hg => ?_, new_fit hny ok1 htn, new_may ok1 htn, fun g i hg hi => ?_⟩
    · rw [htn g hg]
      exact four_all (P := fun g => (four (α := Sl) ⟨some ⟨w1.heap.size, 0, none⟩, 4, 4⟩ ⟨some ⟨w1.heap.size + 1, 0, none⟩, 4, 4⟩ ⟨some ⟨w1.heap.size + 1 + 1, 0, none⟩, 4, 4⟩ ⟨some ⟨w1.heap.size + 1 + 1 + 1, 0, none⟩, 4, 4⟩ g).n = 4) rfl rfl rfl rfl g hg
    · obtain ⟨a1, a2, a3⟩ := newZ_word (fun _ => listZ [0, 0, 0, 0]) g i
      refine ⟨?_, a2, a3⟩
      rw [a1]
      have : i = 0 ∨ i = 1 ∨ i = 2 ∨ i = 3 := by omega
      rcases this with rfl | rfl | rfl | rfl <;> rfl
  have b2 := Below.on ((((b1.alloc b1.size (.cells #[.int .i64 0, .int .i64 0, .int .i64 0, .int .i64 0] 3)).alloc (by simp only [World.size_alloc]; have := b1.size; omega) (.cells #[.int .i64 0, .int .i64 0, .int .i64 0, .int .i64 0] 3)).alloc (by simp only [World.size_alloc]; have := b1.size; omega) (.cells #[.int .i64 0, .int .i64 0, .int .i64 0, .int .i64 0] 3)).alloc (by simp only [World.size_alloc]; have := b1.size; omega) (.cells #[.int .i64 0, .int .i64 0, .int .i64 0, .int .i64 0] 3)) hb
  have HF := hide hF
  have HS := hide hS
  have s2 := b2.size
  clear V hny hF hb hok ok1 e1 htn b1 hS
  unfold arenaA
  go_wp2_with (go_at_call 16; go_in)
  go_loopw [6] (fun i wr => ∃ (j : Nat) (t : Nat → Sl) (z : Nat → Nat → Int) (x : Nat → Int) (B C : Nat), j ≤ n0 ∧ j ≤ 40 ∧ i = .int .i64 j ∧ Sixteen t z x ∧ Blk wr w2.heap.size (arenaL t) ∧ Own wr (w2.heap.size + 1) 16 (intF x) ∧ Fresh B C wr t z 4 ∧ (C ≤ w2.heap.size ∨ w2.heap.size + 2 ≤ B) ∧ w2.heap.size + 2 ≤ wr.heap.size ∧ Below w.heap.size w wr) (fun i _ => 40 - (intOf i).toNat)
  case atStart =>
    refine ⟨0, t, _, fun _ => 0, _, _, Nat.zero_le _, Nat.zero_le _, rfl, HS.out, (blk_new w2 (arenaL t) 23).alloc _, ?_, (HF.out.alloc _).alloc _, .inl (Nat.le_refl _), by simp only [World.size_alloc]; omega, (b2.alloc s2 _).alloc (by simp only [World.size_alloc]; omega) _⟩
    have h16 := blk_new (w2.alloc (.cells (arenaL t).toArray 23)) (List.replicate 16 (.int .i64 0)) 51
    rw [World.size_alloc] at h16
    exact ⟨_, h16, fun i hi => by
      rw [List.getElem?_replicate, if_pos hi]; rfl⟩
  case round =>
    clear HF HS
    obtain ⟨j, t, z, x, B, C, hj, hj4, rfl, hS, B3, h16, hF, hBC, hsz, hb⟩ := hrel
    have HS := hide hS
    have HF := hide hF
    clear hS hF
    by_cases hlt : j < n0
    · by_cases h40 : j < 40
      · obtain ⟨b, off, rfl, _, hc⟩ := r0.below hb (Nat.le_refl _) j hlt
        have i1 : (j : Int) < (n0 : Int) := by omega
        have i2 : (j : Int) < 40 := by omega
        obtain ⟨k, hk, hkm⟩ : ∃ k : Nat, k < 16 ∧ bits .and .i64 (z0 j) 15 = k := ⟨(z0 j % 16).toNat, by omega, by rw [mask15]; omega⟩
        obtain ⟨u, hu, hum⟩ : ∃ u : Int, upToV u 255 = true ∧ bits .and .i64 (z0 j / 16) 255 = u := ⟨z0 j / 16 % 256, upToV_of (by omega) (by omega), mask255 _⟩
        go_wp2
        go_quiet (fail)
        replace B3 := B3.drawn nq
        replace h16 := h16.drawn nq
        replace HF : Hid (Fresh B C (wr.drewN nq) t z 4) := HF.out.drawn nq
        replace hb := Below.drawn hb nq
        have hsz' : w2.heap.size + 2 ≤ (wr.drewN nq).heap.size := hsz
        clear hsz hc
        generalize wr.drewN nq = wq at *
        obtain ⟨⟨c0', c1, c2, c3⟩, cf0, cf1, cf2, cf3⟩ := B3.four
        obtain ⟨g, hg⟩ : ∃ g, k / 4 = g := ⟨_, rfl⟩
        obtain ⟨i, hi⟩ : ∃ i, k % 4 = i := ⟨_, rfl⟩
        have q4 := div4 k
        have m4 := mod4 k
        rw [hg] at q4
        rw [hi] at m4
        have HP := hide (fun (t' : Nat → Sl) (hny : Nilly t') (ht : ∀ g, g < 4 → (t' g).n = (t g).n) => (HS.out.put hny ht hk u hu).2)
        have HO := hide (HS.out.ok hk u hu)
        rw [hg, hi] at HP HO
        clear hg hi
        go_wp2_with fail
        refine (hPut t z g i u 0 0 _ HS.out.2.1 HF.out.arn).mono ?_
        rintro e w3 ⟨t', z', rfl, hny', hF', hb3, hok', _⟩
        have hs3 := hb3.size
        obtain ⟨ht', hz'⟩ := hok' HO.out
        rw [Int.toNat_natCast, Int.toNat_natCast] at hz'
        have hE : putE t z g i u 0 0 = 0 := by unfold putE; rw [HO.out]; rfl
        rw [hE]
        have HS' := hide (HP.out t' hny' ht')
        rw [← hz'] at HS'
        have HF' := hide hF'
        replace B3 := B3.on hb3
        replace h16 := h16.on hb3
        have b3 := Below.on hb hb3
        clear hny' hF' hb3 hok' ht' hz' hE HO HP c0' c1 c2 c3 cf0 cf1 cf2 cf3 hb HS HF
        unfold arenaA
        obtain ⟨⟨c0', c1, c2, c3⟩, cf0, cf1, cf2, cf3⟩ := B3.four
        have d0 := h16.cell (i := k) hk
        have df := h16.frozen k
        unfold intF at d0
        have z1 := B3.lt
        have z2 := h16.lt
        have i3 : (k : Int) < 16 := by omega
        go_wp2_with (go_at_call 16; go_in)
        go_roundw
        case rel =>
          repeat apply Exists.intro
          refine ⟨⟨j + 1, t', z', updZ x k u, wq.heap.size, w3.heap.size, by omega, by omega, by go_num, HS'.out, ?_, ?_, ?_, .inr (by omega), ?_, ?_⟩, rfl⟩
          · exact (((((B3.set 0 _).set 1 _).set 2 _).set 3 _).far _ (by simp)).alloc _
          · exact ((((((h16.far _ (by simp)).far _ (by simp)).far _ (by simp)).far _ (by simp)).setInt k u).alloc _)
          · exact (((((HF'.out.far _ (.inl (by simp; omega))).far _ (.inl (by simp; omega))).far _ (.inl (by simp; omega))).far _ (.inl (by simp; omega))).far _ (.inl (by simp; omega))).alloc _
          · simp only [World.size_alloc, World.size_setCell]; omega
          · exact (((((b3.setCell (by simp; omega) _).setCell (by simp; omega) _).setCell (by simp; omega) _).setCell (by simp; omega) _).setCell (by simp; omega) _).alloc (by simp only [World.size_setCell]; omega) _
        case measure => simp [intOf]; omega
      · have i2 : ¬ (j : Int) < 40 := by omega
        go_wp2
        go_loopw [11] (fun i wr2 => ∃ m : Nat, m ≤ 16 ∧ i = .int .i64 m ∧ Blk wr2 w2.heap.size (arenaL t) ∧ Own wr2 (w2.heap.size + 1) 16 (intF x) ∧ Arn wr2 t z ∧ Below w.heap.size w wr2) (fun i _ => 16 - (intOf i).toNat)
        case atStart => exact ⟨0, Nat.zero_le _, rfl, B3, h16, HF.out.arn, hb⟩
        case round =>
          clear B3 h16 HF hb hsz hBC
          rename_i wr2
          obtain ⟨m, hm, rfl, B3, h16, hA, hb⟩ := hrel
          have HA := hide hA
          clear hA
          obtain ⟨⟨c0', c1, c2, c3⟩, cf0, cf1, cf2, cf3⟩ := B3.four
          by_cases hm16 : m < 16
          · obtain ⟨g, hg⟩ : ∃ g, m / 4 = g := ⟨_, rfl⟩
            obtain ⟨i, hi⟩ : ∃ i, m % 4 = i := ⟨_, rfl⟩
            have q4 := div4 m
            have m4 := mod4 m
            rw [hg] at q4
            rw [hi] at m4
            have HG := hide (HS.out.get hm16)
            rw [hg, hi] at HG
            clear hg hi
            have i1 : (m : Int) < 16 := by omega
            go_wp2_with fail
            refine (hGet t z g i _ HS.out.2.1 HA.out).mono ?_
            rintro e w4 ⟨rfl, hb4⟩
            rw [HG.out.1, HG.out.2]
            clear c0' c1 c2 c3 cf0 cf1 cf2 cf3
            have b4 := Below.on hb hb4
            have A4 : Hid (Arn w4 t z) := HA.out.below hb4 (Nat.le_refl _)
            replace B3 := B3.on hb4
            replace h16 := h16.on hb4
            clear hb hb4 HA
            unfold wordA
            go_wp2_with fail
            have B5 := blk_new w4 [.int .i64 (x m), .int .i64 0, .int .i64 0] 27
            replace B3 := B3.alloc (.cells #[.int .i64 (x m), .int .i64 0, .int .i64 0] 27)
            replace h16 := h16.alloc (.cells #[.int .i64 (x m), .int .i64 0, .int .i64 0] 27)
            replace A4 : Hid (Arn (w4.alloc (.cells #[.int .i64 (x m), .int .i64 0, .int .i64 0] 27)) t z) := A4.out.below ((Below.refl w4.heap.size w4).alloc (Nat.le_refl _) _) (Nat.le_refl _)
            replace b4 := b4.alloc b4.size (.cells #[.int .i64 (x m), .int .i64 0, .int .i64 0] 27)
            generalize w4.alloc (.cells #[.int .i64 (x m), .int .i64 0, .int .i64 0] 27) = W at *
            obtain ⟨⟨d0, d1, d2⟩, df0, df1, df2⟩ := B5.three
            have d3 := h16.cell (i := m) hm16
            unfold intF at d3
            go_quiet ((go_at_call 16; exact Calls.quiet_of_same (flip (num_any _ _))))
            go_wp2
            go_roundw
            case rel =>
              first
                | exact ⟨m + 1, by omega, by go_num, B3.drawn _, h16.drawn _, A4.out, Below.drawn b4 _⟩
                | (repeat apply Exists.intro
                   exact ⟨⟨m + 1, by omega, by go_num, B3.drawn _, h16.drawn _, A4.out, Below.drawn b4 _⟩, rfl⟩)
            case measure => simp [intOf]; omega
          · go_wp2_with fail
            refine (hMay t z _ HS.out.2.1 HA.out).mono ?_
            rintro e w4 ⟨rfl, hb4⟩
            rw [HS.out.2.2.1]
            have b4 := Below.on hb hb4
            clear c0' c1 c2 c3 cf0 cf1 cf2 cf3
            go_wp2
            go_ret
            exact ⟨rfl, b4⟩
    · have i2 : ¬ (j : Int) < (n0 : Int) := by omega
      go_wp2
      go_loopw [11] (fun i wr2 => ∃ m : Nat, m ≤ 16 ∧ i = .int .i64 m ∧ Blk wr2 w2.heap.size (arenaL t) ∧ Own wr2 (w2.heap.size + 1) 16 (intF x) ∧ Arn wr2 t z ∧ Below w.heap.size w wr2) (fun i _ => 16 - (intOf i).toNat)
      case atStart => exact ⟨0, Nat.zero_le _, rfl, B3, h16, HF.out.arn, hb⟩
      case round =>
        clear B3 h16 HF hb hsz hBC
        rename_i wr2
        obtain ⟨m, hm, rfl, B3, h16, hA, hb⟩ := hrel
        have HA := hide hA
        clear hA
        obtain ⟨⟨c0', c1, c2, c3⟩, cf0, cf1, cf2, cf3⟩ := B3.four
        by_cases hm16 : m < 16
        · obtain ⟨g, hg⟩ : ∃ g, m / 4 = g := ⟨_, rfl⟩
          obtain ⟨i, hi⟩ : ∃ i, m % 4 = i := ⟨_, rfl⟩
          have q4 := div4 m
          have m4 := mod4 m
          rw [hg] at q4
          rw [hi] at m4
          have HG := hide (HS.out.get hm16)
          rw [hg, hi] at HG
          clear hg hi
          have i1 : (m : Int) < 16 := by omega
          go_wp2_with fail
          refine (hGet t z g i _ HS.out.2.1 HA.out).mono ?_
          rintro e w4 ⟨rfl, hb4⟩
          rw [HG.out.1, HG.out.2]
          clear c0' c1 c2 c3 cf0 cf1 cf2 cf3
          have b4 := Below.on hb hb4
          have A4 : Hid (Arn w4 t z) := HA.out.below hb4 (Nat.le_refl _)
          replace B3 := B3.on hb4
          replace h16 := h16.on hb4
          clear hb hb4 HA
          unfold wordA
          go_wp2_with fail
          have B5 := blk_new w4 [.int .i64 (x m), .int .i64 0, .int .i64 0] 27
          replace B3 := B3.alloc (.cells #[.int .i64 (x m), .int .i64 0, .int .i64 0] 27)
          replace h16 := h16.alloc (.cells #[.int .i64 (x m), .int .i64 0, .int .i64 0] 27)
          replace A4 : Hid (Arn (w4.alloc (.cells #[.int .i64 (x m), .int .i64 0, .int .i64 0] 27)) t z) := A4.out.below ((Below.refl w4.heap.size w4).alloc (Nat.le_refl _) _) (Nat.le_refl _)
          replace b4 := b4.alloc b4.size (.cells #[.int .i64 (x m), .int .i64 0, .int .i64 0] 27)
          generalize w4.alloc (.cells #[.int .i64 (x m), .int .i64 0, .int .i64 0] 27) = W at *
          obtain ⟨⟨d0, d1, d2⟩, df0, df1, df2⟩ := B5.three
          have d3 := h16.cell (i := m) hm16
          unfold intF at d3
          go_quiet ((go_at_call 16; exact Calls.quiet_of_same (flip (num_any _ _))))
          go_wp2
          go_roundw
          case rel =>
            first
              | exact ⟨m + 1, by omega, by go_num, B3.drawn _, h16.drawn _, A4.out, Below.drawn b4 _⟩
              | (repeat apply Exists.intro
                 exact ⟨⟨m + 1, by omega, by go_num, B3.drawn _, h16.drawn _, A4.out, Below.drawn b4 _⟩, rfl⟩)
          case measure => simp [intOf]; omega
        · go_wp2_with fail
          refine (hMay t z _ HS.out.2.1 HA.out).mono ?_
          rintro e w4 ⟨rfl, hb4⟩
          rw [HS.out.2.2.1]
          have b4 := Below.on hb hb4
          clear c0' c1 c2 c3 cf0 cf1 cf2 cf3
          go_wp2
          go_ret
          exact ⟨rfl, b4⟩

end Go.Proofs.Ytmjclmjnkmhciaa
