/-
  The document's With of chapter 9.
-/
import Derived.Test.YtleemagdidffpaaReadsRef
import Derived.Test.YtleemagdidffpaaAppendRow
namespace Go.Proofs.Ytleemagdidffpaa
open Go.RowKit
set_option linter.unusedSimpArgs false
set_option linter.unusedVariables false

/-- One read's numbers. -/
def oneR (l i v : Int) : Nat → Int := putR (fun _ => 0) 0 l i v
theorem Blk.read {w : World} {b : Nat} {l i v : Int} (h : Blk w b [.int .i64 l, .int .i64 i, .int .i64 v]) : Row w (some ⟨b, 0, none⟩) (1 * 3) fun j => .int .i64 (oneR l i v j) := by
  refine Own.row ⟨_, h, fun j hj => ?_⟩
  have : j = 0 ∨ j = 1 ∨ j = 2 := by omega
  rcases this with rfl | rfl | rfl <;> rfl
theorem readsMay_one (l i v : Int) : readsMay 1 (oneR l i v) = readMay l i v := by
  show ((true && readMay l i v) && (true && noneTo (oneR l i v) l i 0) && true) = _
  rw [Bool.true_and, Bool.and_true, show noneTo (oneR l i v) l i 0 = true from rfl, Bool.and_self, Bool.and_true]

/-- What With hands back: in new memory the reads and the one more, or nothing. -/
def WithPost (n : Nat) (z : Nat → Int) (l i v : Int) (w : World) (e : Ending) (w' : World) : Prop :=
  ∃ x : Sl, e = .returned (.tuple #[.slice x.a x.n x.c, .int .i64 (withE n z l i v)]) ∧ (x.a = none → x.n = 0 ∧ x.c = 0) ∧ x.n ≤ x.c ∧ x.n = withN n z l i v ∧ (withOk n z l i v = false → x = ⟨none, 0, 0⟩) ∧
    (0 < x.n → ∃ b, x.a = some ⟨b, 0, none⟩ ∧ w.heap.size ≤ b ∧ b < w'.heap.size ∧ Own w' b (x.n * 3) (intF (putR z n l i v))) ∧ Below w.heap.size w w'
theorem with_no {n : Nat} {z : Nat → Int} {l i v : Int} {w w' : World} (h : withOk n z l i v = false) (hb : Below w.heap.size w w') : WithPost n z l i v w (.returned (.tuple #[.slice none 0 0, .int .i64 900])) w' :=
  ⟨⟨none, 0, 0⟩, by unfold withE; rw [h]; rfl, fun _ => ⟨rfl, rfl⟩, Nat.le_refl _, by unfold withN; rw [h]; rfl, fun _ => rfl, fun hp => absurd hp (Nat.lt_irrefl 0), hb⟩
/-- The reads as they are. -/
theorem with_old {n : Nat} {z : Nat → Int} {l i v : Int} {w w' : World} {a : Option Addr} {c : Nat} (h : withOk n z l i v = true) (hn : noneTo z l i n = false) (hb : Below w.heap.size w w')
    (hc : n ≤ c) (ha : a = none → n = 0 ∧ c = 0) (ho : 0 < n → ∃ b, a = some ⟨b, 0, none⟩ ∧ w.heap.size ≤ b ∧ b < w'.heap.size ∧ Own w' b (n * 3) (intF z)) : WithPost n z l i v w (.returned (.tuple #[.slice a n c, .int .i64 0])) w' := by
  refine ⟨⟨a, n, c⟩, by unfold withE; rw [h]; rfl, ha, hc, by unfold withN; rw [h, hn]; rfl, (fun h' => by rw [h] at h'; cases h'), fun hp => ?_, hb⟩
  obtain ⟨b, e1, e2, e3, e4⟩ := ho hp
  exact ⟨b, e1, e2, e3, e4.congr fun j hj => by unfold intF; rw [putR_old hj]⟩
/-- The reads, and one more. -/
theorem with_new {n : Nat} {z : Nat → Int} {l i v : Int} {w w' : World} {a : Option Addr} {c : Nat} (h : withOk n z l i v = true) (hn : noneTo z l i n = true) (hb : Below w.heap.size w w')
    (hc : n + 1 ≤ c) (ho : 0 < n + 1 → ∃ b, a = some ⟨b, 0, none⟩ ∧ w.heap.size ≤ b ∧ b < w'.heap.size ∧ Own w' b ((n + 1) * 3) (intF (putR z n l i v))) : WithPost n z l i v w (.returned (.tuple #[.slice a (n + 1) c, .int .i64 0])) w' := by
  obtain ⟨b, e1, e2, e3, e4⟩ := ho (by omega)
  refine ⟨⟨a, n + 1, c⟩, by unfold withE; rw [h]; rfl, (fun ha => by rw [e1] at ha; cases ha), hc, by unfold withN; rw [h, hn]; rfl, (fun h' => by rw [h] at h'; cases h'), fun hp => ⟨b, e1, e2, e3, e4⟩, hb⟩
theorem putR_row (z : Nat → Int) (n : Nat) (l i v : Int) : rowL (intF z) (n * 3) ++ [.int .i64 l, .int .i64 i, .int .i64 v] = rowL (intF (putR z n l i v)) ((n + 1) * 3) := by
  obtain ⟨e0, e1, e2⟩ := putR_new z n l i v
  rw [show (n + 1) * 3 = n * 3 + 3 by omega, rowL_add]
  congr 1
  · exact rowL_congr fun j hj => by unfold intF; rw [putR_old hj]
  · show _ = [intF (putR z n l i v) (n * 3 + 0), intF (putR z n l i v) (n * 3 + 1), intF (putR z n l i v) (n * 3 + 2)]
    unfold intF
    rw [Nat.add_zero, e0, e1, e2]
theorem withOk_mk {n : Nat} {z : Nat → Int} {l i v : Int} (h : readsMay n z = true) (hr : readMay l i v = true) : withOk n z l i v = (!noneTo z l i n || decide (n + 1 ≤ 16)) := by
  rw [withOk, h, hr]; rfl
theorem withOk_reads {n : Nat} {z : Nat → Int} {l i v : Int} (h : readsMay n z = false) : withOk n z l i v = false := by rw [withOk, h]; rfl
theorem withOk_read {n : Nat} {z : Nat → Int} {l i v : Int} (h : readMay l i v = false) : withOk n z l i v = false := by rw [withOk, h, Bool.and_false, Bool.false_and]

set_option maxRecDepth 10000 in
set_option maxHeartbeats 4000000 in
theorem rwithRead_any (a : Option Addr) (n c : Nat) (z : Nat → Int) (l i v : Int) (w : World) (hn : n ≤ 1152921504606846976) (ha : a = none → n = 0 ∧ c = 0) (h : Row w a (n * 3) fun i => .int .i64 (z i)) :
    Calls Try.prog 12 #[.slice a n c, wordA l i v] w (WithPost n z l i v w) := by
  obtain ⟨i0, hi, hz0, hz1, hz2⟩ := info_parts Try.infoRead
  have CR := hide fun w h => rreadsMay_any a n c z w hn h
  have C1 := hide fun b w h => rreadsMay_any (some ⟨b, 0, none⟩) 1 1 (oneR l i v) w (by omega) h
  rw [readsMay_one] at C1
  have b0 : Below w.heap.size w (w.alloc (.cells #[.int .i64 l, .int .i64 i, .int .i64 v] 24)) := by go_grown
  have B := blk_new w [.int .i64 l, .int .i64 i, .int .i64 v] 24
  have HR := hide (h.below b0 (Nat.le_refl _))
  clear h
  unfold wordA
  go_enter Try.func12, Try.ntmps12
  go_wp2_with fail
  refine (CR.out _ HR.out).mono ?_
  rintro e w1 ⟨rfl, hb⟩
  have b1 := Below.on b0 hb
  have R1 := hide (HR.out.below hb (Nat.le_refl _))
  have B1 := B.on hb
  clear hb b0 HR B CR
  cases hr : readsMay n z
  · have HN := hide (withOk_reads (l := l) (i := i) (v := v) hr)
    clear B1
    go_wp2
    go_ret2
    exact with_no HN.out b1
  · obtain ⟨⟨c0, c1, c2⟩, f0, f1, f2⟩ := B1.three
    have bl := B1.lt
    go_wp2_with fail
    have bb := (Below.refl w1.heap.size w1).alloc (Nat.le_refl _) (.cells #[.int .i64 l, .int .i64 i, .int .i64 v] 24)
    refine (C1.out _ _ (blk_new w1 [.int .i64 l, .int .i64 i, .int .i64 v] 24).read).mono ?_
    rintro e w2 ⟨rfl, hb⟩
    replace bb := Below.on bb hb
    have b2 := Below.on b1 bb
    have R2 := hide (R1.out.below bb (Nat.le_refl _))
    have B2 := B1.on bb
    have s2 := b2.size
    have s1 := b1.size
    clear hb b1 R1 bb B1 C1 c0 c1 c2 f0 f1 f2
    cases hm : readMay l i v
    · have HN := hide (withOk_read (n := n) (z := z) hm)
      clear B2
      go_wp2
      go_ret2
      exact with_no HN.out b2
    · have HOK := hide (withOk_mk hr hm)
      have n16 := (readsMay_get hr).2.2
      have hown : (w2.alloc (.cells #[] 24)).ownsRow w.heap.size 24 3 (.slice (some ⟨w2.heap.size, 0, none⟩) 0 0) 0 [] := World.ownsRow_made w2 #[] 0 s2 (by decide) rfl
      have HO := hide hown
      have bb := (Below.refl w2.heap.size w2).alloc (Nat.le_refl _) (.cells #[] 24)
      have R3 := hide (R2.out.below bb (Nat.le_refl _))
      have HA := hide ha
      clear hown hr hm ha bb
      go_wp2_with (at_builtin; refine wpList_append_row rfl (.tmp 17) (.tmp 18) 22 rfl w.heap.size 24 i0 (.agg #[.int .i64 0, .int .i64 0, .int .i64 0]) 3 24 Try.underlying22 hi hz0 hz1 hz2 rfl (by decide) _ _ _ rfl (unhide HO) a n c (fun i => .int .i64 (z i)) rfl (unhide HA) (unhide R3) (fun _ => rfl) ?_ ?_ ?_ ?_)
      · unfold maxLen; omega
      · omega
      · simp; omega
      · intro v' w3 hown' hg
        have bw : Below w2.heap.size w2 w3 := ((Below.refl w2.heap.size w2).alloc (Nat.le_refl _) (.cells #[] 24)).grown hg (by simp) (by intro j hj; simp [Value.ownBlock] at hj; omega)
        have hown2 : w3.ownsRow w.heap.size 24 3 v' n (rowL (intF z) (n * 3)) := hown'
        obtain ⟨xa, xc, rfl, _⟩ := slice_of_owns hown2
        have HO2 := hide hown2
        have R4 := hide (R2.out.below bw (Nat.le_refl _))
        have B3 := B2.on bw
        have b3 := Below.on b2 bw
        clear hown' hg hown2 HO R2 R3 bw B2 b2
        go_wp2
        go_loopw [7] (fun j wr => ∃ k : Nat, k ≤ n ∧ j = .int .i64 k ∧ Hid (noneTo z l i k = true) ∧ Hid (wr.ownsRow w.heap.size 24 3 (.slice xa n xc) n (rowL (intF z) (n * 3))) ∧ Blk wr w.heap.size [.int .i64 l, .int .i64 i, .int .i64 v] ∧ Hid (Row wr a (n * 3) fun i => .int .i64 (z i)) ∧ Below w.heap.size w wr) (fun j _ => n - (intOf j).toNat)
        case atStart => exact ⟨0, Nat.zero_le _, rfl, rfl, HO2, B3, R4, b3⟩
        case round =>
          clear HO2 B3 R4 b3
          obtain ⟨k, hk, rfl, HS, HO, B, HR, hb⟩ := hrel
          obtain ⟨⟨c0, c1, c2⟩, f0, f1, f2⟩ := B.three
          have bl2 := B.lt
          by_cases hlt : k < n
          · have i1 : (k : Int) < (n : Int) := by omega
            obtain ⟨b, off, hsa, hbl, d0, d1, d2⟩ := HR.out.at3 k hlt
            subst hsa
            by_cases v0 : z (k * 3) = l
            · by_cases v1 : z (k * 3 + 1) = i
              · have HN : Hid (noneTo z l i n = false) := allTo_no k hlt (by unfold isWord; rw [v0, v1]; simp)
                rw [v0] at d0
                rw [v1] at d1
                clear v0 v1
                go_wp2
                go_quiet (fail)
                go_wp2
                go_ret2
                obtain ⟨_, _, e, hc, hnn, _, ho⟩ := slice_of_owns (owns_drawn HO.out nq)
                simp only [Value.slice.injEq, true_and] at e
                obtain ⟨rfl, rfl⟩ := e
                exact with_old (by rw [HOK.out, HN.out]; rfl) HN.out (Below.drawn hb _) hc hnn ho
              · have HN : Hid (noneTo z l i (k + 1) = true) := by
                  show allTo _ (k + 1) = true
                  rw [allTo, show allTo _ k = true from HS.out]
                  unfold isWord
                  rw [beq_eq_false_iff_ne.2 v1, Bool.and_false]
                  rfl
                have dv : decide (z (k * 3 + 1) = i) = false := decide_eq_false v1
                rw [v0] at d0
                clear v0
                go_wp2
                go_quiet (fail)
                go_wp2
                go_roundw
                case rel =>
                  first
                    | exact ⟨k + 1, by omega, by go_num, HN, owns_drawn HO.out _, B.drawn _, HR.out.drewN _, Below.drawn hb _⟩
                    | (repeat apply Exists.intro
                       exact ⟨⟨k + 1, by omega, by go_num, HN, owns_drawn HO.out _, B.drawn _, HR.out.drewN _, Below.drawn hb _⟩, rfl⟩)
                case measure => simp [intOf]; omega
            · have HN : Hid (noneTo z l i (k + 1) = true) := by
                show allTo _ (k + 1) = true
                rw [allTo, show allTo _ k = true from HS.out]
                unfold isWord
                rw [beq_eq_false_iff_ne.2 v0, Bool.false_and]
                rfl
              have dv : decide (z (k * 3) = l) = false := decide_eq_false v0
              go_wp2
              go_quiet (fail)
              go_wp2
              go_roundw
              case rel =>
                first
                  | exact ⟨k + 1, by omega, by go_num, HN, owns_drawn HO.out _, B.drawn _, HR.out.drewN _, Below.drawn hb _⟩
                  | (repeat apply Exists.intro
                     exact ⟨⟨k + 1, by omega, by go_num, HN, owns_drawn HO.out _, B.drawn _, HR.out.drewN _, Below.drawn hb _⟩, rfl⟩)
              case measure => simp [intOf]; omega
          · obtain rfl : k = n := by omega
            have s3 := hb.size
            have HO3 := hide (HO.out.alloc (.cells #[.int .i64 l, .int .i64 i, .int .i64 v] 24))
            have HE := hide (owns_block HO.out)
            have HNW := hide (World.news_of_block (cs := #[.int .i64 l, .int .i64 i, .int .i64 v]) (t := 24) (fr := (0, 0)) (heap_alloc_new wr (.cells #[.int .i64 l, .int .i64 i, .int .i64 v] 24)))
            clear HO HR B
            go_wp2_with (at_builtin; refine wpList_append_own _ rfl (.tmp 45) (.tmp 47) 22 rfl w.heap.size 24 i0 (.agg #[.int .i64 0, .int .i64 0, .int .i64 0]) 3 24 Try.underlying22 hi hz0 hz1 hz2 rfl (by decide) _ _ _ rfl (unhide HO3) ⟨wr.heap.size, 0, none⟩ 1 1 [.int .i64 l, .int .i64 i, .int .i64 v] rfl rfl (unhide HNW) ?_ ?_ ?_ ?_ ?_)
            · simp [Value.oneCell']
            · unfold maxLen; omega
            · omega
            · first | omega | (simp only [World.size_alloc]; omega)
            · intro v' w4 hown1 hgrow _
              have b4 : Below w.heap.size w w4 := (hb.alloc s3 _).grown hgrow (by simp only [World.size_alloc]; omega) HE.out
              rw [putR_row] at hown1
              obtain ⟨ya, yc, rfl, hyc, _, _, ho⟩ := slice_of_owns hown1
              have HO4 := hide ho
              clear hown1 hgrow HO3 HNW HE hb ho
              by_cases h16 : k + 1 ≤ 16
              · have i6 : ¬ (16 : Int) < (k : Int) + 1 := by omega
                go_wp2
                go_ret2
                exact with_new (by rw [HOK.out, HS.out, decide_eq_true h16]; rfl) HS.out b4 hyc HO4.out
              · have i6 : (16 : Int) < (k : Int) + 1 := by omega
                go_wp2
                go_ret2
                exact with_no (by rw [HOK.out, HS.out, decide_eq_false h16]; rfl) b4

end Go.Proofs.Ytleemagdidffpaa
