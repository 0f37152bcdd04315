/-
  The law ReadsetTurned, if package readset's functions keep their statements.
-/
import Derived.Test.YtleemagdidffpaaTurnedPure
import Derived.Test.YtleemagdidffpaaReadsetFirstSaid
namespace Go.Proofs.Ytleemagdidffpaa
open Go.RowKit
set_option linter.unusedSimpArgs false
set_option linter.unusedVariables false

theorem mine_of_owns {w : World} {base : Nat} {e : TypeId} {n c : Nat} {a : Option Addr} {z : Nat → Int} (h : w.ownsRow base e 3 (.slice a n c) n (rowL (intF z) (n * 3))) : Mine base w a n c z := by
  obtain ⟨_, _, e, hc, hn, _, ho⟩ := slice_of_owns h
  simp only [Value.slice.injEq, true_and] at e
  obtain ⟨rfl, rfl⟩ := e
  refine ⟨hc, hn, fun hp => ?_⟩
  obtain ⟨b, e1, e2, _, e4⟩ := ho hp
  exact ⟨b, e1, e2, e4⟩
theorem Mine.on {B : Nat} {w w' : World} {a : Option Addr} {n c : Nat} {z : Nat → Int} (h : Mine B w a n c z) (hb : Below w.heap.size w w') : Mine B w' a n c z :=
  ⟨h.1, h.2.1, fun hp => by obtain ⟨b, e1, e2, e3⟩ := h.2.2 hp; exact ⟨b, e1, e2, e3.on hb⟩⟩
theorem Mine.far {B : Nat} {w : World} {a : Option Addr} {n c : Nat} {z : Nat → Int} (h : Mine B w a n c z) {p : Addr} (hp : p.block < B) (v : Value) : Mine B (w.setCell p v) a n c z :=
  ⟨h.1, h.2.1, fun hn => by obtain ⟨b, e1, e2, e3⟩ := h.2.2 hn; exact ⟨b, e1, e2, e3.far _ (by omega)⟩⟩

set_option maxRecDepth 10000 in
set_option maxHeartbeats 8000000 in
theorem readsetTurned_said (hM : MayRC) (hW : WithRC) (hG : GoodRC) (hC : ChgRC) (a0 : Option Addr) (n0 c0 : Nat) (z0 : Nat → Int) (at_ id : Int) (lock : Bool) (w : World) (l0 : n0 * 8 ≤ 140737488351232) (r0 : Row w a0 n0 fun i => .int .i64 (z0 i)) :
    Calls Try.prog 7 #[.slice a0 n0 c0, .int .i64 at_, .int .i64 id, .bool lock] w fun e w' => e = .returned (.bool true) ∧ Below w.heap.size w w' := by
  obtain ⟨i0, hi, hz0, hz1, hz2⟩ := info_parts Try.infoRead
  have C0 := hide fun w => awake9_any hM hW hG hC w
  go_enter Try.func7, Try.ntmps7
  go_wp2_with fail
  refine (C0.out _).mono ?_
  rintro e w1 ⟨rfl, b1⟩
  have s1 := b1.size
  clear C0
  go_wp2_with fail
  have V : Held ((((w1.alloc (.cells #[.int .i64 1, .int .i64 2, .int .i64 3, .int .i64 4] 3)).alloc (.cells #[.int .i64 5, .int .i64 6, .int .i64 7, .int .i64 8] 3)).alloc (.cells #[.int .i64 1, .int .i64 2, .int .i64 3, .int .i64 4] 3)).alloc (.cells #[.int .i64 5, .int .i64 6, .int .i64 7, .int .i64 8] 3)) [(w1.heap.size, [1, 2, 3, 4].map (Value.int .i64)), (w1.heap.size + 1, [5, 6, 7, 8].map (Value.int .i64)), (w1.heap.size + 1 + 1, [1, 2, 3, 4].map (Value.int .i64)), (w1.heap.size + 1 + 1 + 1, [5, 6, 7, 8].map (Value.int .i64))] := by
    have e0 := blk_lz w1 [1, 2, 3, 4] 3
    have e1 := blk_lz (w1.alloc (.cells ([1, 2, 3, 4].map (Value.int .i64)).toArray 3)) [5, 6, 7, 8] 3
    have e2 := blk_lz ((w1.alloc (.cells ([1, 2, 3, 4].map (Value.int .i64)).toArray 3)).alloc (.cells ([5, 6, 7, 8].map (Value.int .i64)).toArray 3)) [1, 2, 3, 4] 3
    have e3 := blk_lz (((w1.alloc (.cells ([1, 2, 3, 4].map (Value.int .i64)).toArray 3)).alloc (.cells ([5, 6, 7, 8].map (Value.int .i64)).toArray 3)).alloc (.cells ([1, 2, 3, 4].map (Value.int .i64)).toArray 3)) [5, 6, 7, 8] 3
    simp only [World.size_alloc] at e1 e2 e3
    exact Held.cons (((e0.alloc _).alloc _).alloc _) (Held.cons ((e1.alloc _).alloc _) (Held.cons (e2.alloc _) (Held.cons e3 (Held.nil _))))
  have bV : Below w1.heap.size w1 ((((w1.alloc (.cells #[.int .i64 1, .int .i64 2, .int .i64 3, .int .i64 4] 3)).alloc (.cells #[.int .i64 5, .int .i64 6, .int .i64 7, .int .i64 8] 3)).alloc (.cells #[.int .i64 1, .int .i64 2, .int .i64 3, .int .i64 4] 3)).alloc (.cells #[.int .i64 5, .int .i64 6, .int .i64 7, .int .i64 8] 3)) := by go_grown
  generalize (((w1.alloc (.cells #[.int .i64 1, .int .i64 2, .int .i64 3, .int .i64 4] 3)).alloc (.cells #[.int .i64 5, .int .i64 6, .int .i64 7, .int .i64 8] 3)).alloc (.cells #[.int .i64 1, .int .i64 2, .int .i64 3, .int .i64 4] 3)).alloc (.cells #[.int .i64 5, .int .i64 6, .int .i64 7, .int .i64 8] 3) = WV at *
  refine (rnewArena_any (four ⟨some ⟨w1.heap.size, 0, none⟩, 4, 4⟩ ⟨some ⟨w1.heap.size + 1, 0, none⟩, 4, 4⟩ ⟨some ⟨w1.heap.size + 1 + 1, 0, none⟩, 4, 4⟩ ⟨some ⟨w1.heap.size + 1 + 1 + 1, 0, none⟩, 4, 4⟩) (four (lz [1, 2, 3, 4]) (lz [5, 6, 7, 8]) (lz [1, 2, 3, 4]) (lz [5, 6, 7, 8])) _ ?_ ?_).mono ?_
  · exact four_all (by simp [four]) (by simp [four]) (by simp [four]) (by simp [four])
  · exact four_all (V.at 0 rfl).lzRow (V.at 1 rfl).lzRow (V.at 2 rfl).lzRow (V.at 3 rfl).lzRow
  rintro e w2 ⟨t, rfl, hny, hF, hb, hok, _⟩
  have ok1 : newOk (four ⟨some ⟨w1.heap.size, 0, none⟩, 4, 4⟩ ⟨some ⟨w1.heap.size + 1, 0, none⟩, 4, 4⟩ ⟨some ⟨w1.heap.size + 1 + 1, 0, none⟩, 4, 4⟩ ⟨some ⟨w1.heap.size + 1 + 1 + 1, 0, none⟩, 4, 4⟩) (four (lz [1, 2, 3, 4]) (lz [5, 6, 7, 8]) (lz [1, 2, 3, 4]) (lz [5, 6, 7, 8])) = true := by kernel_rfl
  have htn := hok ok1
  have hfit := new_fit hny ok1 htn
  have h4 : ∀ g, g < 4 → (t g).n = 4 := fun g hg => by
    rw [htn g hg]
    exact four_all (P := fun g => (four (α := Sl) ⟨some ⟨w1.heap.size, 0, none⟩, 4, 4⟩ ⟨some ⟨w1.heap.size + 1, 0, none⟩, 4, 4⟩ ⟨some ⟨w1.heap.size + 1 + 1, 0, none⟩, 4, 4⟩ ⟨some ⟨w1.heap.size + 1 + 1 + 1, 0, none⟩, 4, 4⟩ g).n = 4) rfl rfl rfl rfl g hg
  have HFo : Hid (Fours t (newZ (four (lz [1, 2, 3, 4]) (lz [5, 6, 7, 8]) (lz [1, 2, 3, 4]) (lz [5, 6, 7, 8])))) := ⟨h4, new_may ok1 htn, fun g i => (newZ_word _ g i).2.1, fun g i => (newZ_word _ g i).2.2⟩
  have b2 := Below.on b1 (Below.on bV hb)
  have s2 := b2.size
  have sV := hb.size
  have sW : w.heap.size ≤ WV.heap.size := by have := bV.size; omega
  have HFr := hide hF
  have HFit := hide hfit
  generalize newZ (four (lz [1, 2, 3, 4]) (lz [5, 6, 7, 8]) (lz [1, 2, 3, 4]) (lz [5, 6, 7, 8])) = y at *
  clear V bV hny hF hb hok ok1 htn hfit h4 b1
  unfold arenaA
  go_wp2
  go_loopw [11, 13] (fun rs i wr => ∃ (j n : Nat) (z : Nat → Int) (f : Nat → Bool) (va : Option Addr) (vc : Nat), j ≤ n0 ∧ j ≤ 8 ∧ rs = .slice va n vc ∧ i = .int .i64 j ∧ Sixteens n z f ∧ Naught n z ∧ Hid (wr.ownsRow (w2.heap.size + 2) 24 3 (.slice va n vc) n (rowL (intF z) (n * 3))) ∧ Own wr (w2.heap.size + 1) 16 (boolF f) ∧ Blk wr w2.heap.size (arenaL t) ∧ Fresh WV.heap.size w2.heap.size wr t y 4 ∧ w2.heap.size + 2 ≤ wr.heap.size ∧ Below w.heap.size w wr) (fun _ i _ => 8 - (intOf i).toNat)
  case atStart =>
    refine ⟨0, 0, fun _ => 0, fun _ => false, none, 0, Nat.zero_le _, Nat.zero_le _, rfl, rfl, Sixteens.none _, fun _ h => absurd h (Nat.not_lt_zero _), World.ownsRow_nil _ _ _ _, ?_, (blk_new w2 (arenaL t) 26).alloc _, (HFr.out.alloc _).alloc _, by simp only [World.size_alloc]; omega, (b2.alloc s2 _).alloc (by simp only [World.size_alloc]; omega) _⟩
    have h16 := blk_new (w2.alloc (.cells (arenaL t).toArray 26)) (List.replicate 16 (.bool false)) 55
    rw [World.size_alloc] at h16
    exact ⟨_, h16, fun i hi => by rw [List.getElem?_replicate, if_pos hi]; rfl⟩
  case round =>
    clear HFr
    obtain ⟨j, n, z, f, va, vc, hj, hj8, rfl, rfl, hS, hZ, HO, hF, B9, hFr, hsz, hb⟩ := hrel
    have HS := hide hS
    have HZ := hide hZ
    have HFr := hide hFr
    clear hS hZ hFr
    by_cases hgo : j < n0 ∧ j < 8
    · obtain ⟨hlt, h8⟩ := hgo
      obtain ⟨b, off, rfl, _, hc⟩ := r0.below hb (Nat.le_refl _) j hlt
      have i1 : (j : Int) < (n0 : Int) := by omega
      have i2 : (j : Int) < 8 := by omega
      obtain ⟨k, hk, hkm⟩ : ∃ k : Nat, k < 16 ∧ bits .and .i64 (z0 j) 15 = k := ⟨(z0 j % 16).toNat, by omega, by rw [mask15]; omega⟩
      have n16 := (readsMay_get HS.out.may).2.2
      have q4 := quarter k
      have m4 := rest4 k
      have HNew := hide (fun e => HS.out.new hk (v := 0) rfl e)
      have HSame := hide (fun e => HS.out.same (k := k) e)
      have HZN := hide (HZ.out.more ((k / 4 : Nat) : Int) ((k % 4 : Nat) : Int))
      generalize hg : k / 4 = g at *
      generalize hi' : k % 4 = i at *
      clear hg hi'
      have c5 := hF.cell (i := k) hk
      have f5 := hF.frozen k
      have i3 : (k : Int) < 16 := by omega
      have z5 := hF.lt
      have z9 := B9.lt
      have s0 := hb.size
      have HL := hide (owns_lt HO.out)
      unfold boolF at c5
      cases e : f k
      · rw [e] at c5
        obtain ⟨_, hS', hn'⟩ := HNew.out e
        have HS' := hide hS'
        have HO4 := hide (HO.out.alloc (.cells #[.int .i64 (g : Int), .int .i64 (i : Int), .int .i64 0] 24))
        have HNW := hide (World.news_of_block (cs := #[.int .i64 (g : Int), .int .i64 (i : Int), .int .i64 0]) (t := 24) (fr := (0, 0)) (heap_alloc_new wr (.cells #[.int .i64 (g : Int), .int .i64 (i : Int), .int .i64 0] 24)))
        clear hS' HNew HSame HO e HS
        go_wp2_with (at_builtin; refine wpList_append_own _ rfl (.tmp 55) (.tmp 61) 22 rfl (w2.heap.size + 2) 24 i0 (.agg #[.int .i64 0, .int .i64 0, .int .i64 0]) 3 24 Try.underlying22 hi hz0 hz1 hz2 rfl (by decide) _ _ _ rfl (unhide HO4) ⟨wr.heap.size, 0, none⟩ 1 1 [.int .i64 (g : Int), .int .i64 (i : Int), .int .i64 0] rfl rfl (unhide HNW) ?_ ?_ ?_ ?_ ?_)
        · simp [Value.oneCell']
        · unfold maxLen; omega
        · omega
        · first | omega | (simp only [World.size_alloc]; omega)
        · intro v' w4 hown1 hgrow _
          have bg : Below (w2.heap.size + 2) wr w4 := ((Below.refl (w2.heap.size + 2) wr).alloc (by omega) (.cells #[.int .i64 (g : Int), .int .i64 (i : Int), .int .i64 0] 24)).grown hgrow (by simp only [World.size_alloc]; omega) (fun k hk => (HL.out k hk).1)
          have b4 : Below w.heap.size w w4 := hb.trans (bg.mono (by omega))
          rw [putR_row] at hown1
          have hF4 := hF.below bg (by omega)
          have B94 := B9.below bg (by omega)
          have HFr4 := hide (HFr.out.below bg (by omega))
          obtain ⟨ya, yc, rfl, _⟩ := slice_of_owns hown1
          have HO4' := hide hown1
          have s4 := bg.size
          clear hown1 hgrow HO4 HNW HL hF B9 HFr hb c5 f5 z5 z9 hkm q4 m4 hc bg
          have c5 := hF4.cell (i := k) hk
          have f5 := hF4.frozen k
          have z5 := hF4.lt
          unfold boolF at c5
          go_wp2
          go_roundw
          case rel =>
            have hF5 := hF4.setBool k
            have HO5 := owns_far HO4'.out (a := ⟨w2.heap.size + 1, k, none⟩) (by simp) (.bool true)
            have B95 := B94.far (a := ⟨w2.heap.size + 1, k, none⟩) (.bool true) (by simp)
            have HF5 := HFr4.out.far (a := ⟨w2.heap.size + 1, k, none⟩) (.bool true) (.inr (by simp))
            have b5 : Below w.heap.size w (w4.setCell ⟨w2.heap.size + 1, k, none⟩ (.bool true)) := b4.setCell (by simp; omega) _
            first
              | exact ⟨j + 1, n + 1, _, _, ya, yc, by omega, by omega, rfl, by go_num, HS'.out, HZN.out, HO5, hF5, B95, HF5, by rw [World.size_setCell]; omega, b5⟩
              | (repeat apply Exists.intro
                 exact ⟨⟨j + 1, n + 1, _, _, ya, yc, by omega, by omega, rfl, by go_num, HS'.out, HZN.out, HO5, hF5, B95, HF5, by rw [World.size_setCell]; omega, b5⟩, rfl⟩)
          case measure => simp [intOf]; omega
      · rw [e] at c5
        have HS' := hide (HSame.out e)
        clear HNew HSame e HL HZN
        go_wp2
        go_roundw
        case rel =>
          have hF5 := hF.setBool k
          have HO5 := owns_far HO.out (a := ⟨w2.heap.size + 1, k, none⟩) (by simp) (.bool true)
          have B95 := B9.far (a := ⟨w2.heap.size + 1, k, none⟩) (.bool true) (by simp)
          have HF5 := HFr.out.far (a := ⟨w2.heap.size + 1, k, none⟩) (.bool true) (.inr (by simp))
          have b5 : Below w.heap.size w (wr.setCell ⟨w2.heap.size + 1, k, none⟩ (.bool true)) := hb.setCell (by simp; omega) _
          first
            | exact ⟨j + 1, n, z, _, va, vc, by omega, by omega, rfl, by go_num, HS'.out, HZ.out, HO5, hF5, B95, HF5, by rw [World.size_setCell]; omega, b5⟩
            | (repeat apply Exists.intro
               exact ⟨⟨j + 1, n, z, _, va, vc, by omega, by omega, rfl, by go_num, HS'.out, HZ.out, HO5, hF5, B95, HF5, by rw [World.size_setCell]; omega, b5⟩, rfl⟩)
        case measure => simp [intOf]; omega
    · have HM := hide (mine_of_owns HO.out)
      clear HO
      have hend : ¬ (j : Int) < (n0 : Int) ∨ ((j : Int) < (n0 : Int) ∧ ¬ (j : Int) < 8) := by omega
      clear hgo r0
      have hcase : ∃ x : Bool, (x = true → (j : Int) < (n0 : Int) ∧ ¬ (j : Int) < 8) ∧ (x = false → ¬ (j : Int) < (n0 : Int)) := by
        rcases hend with h | h
        · exact ⟨false, (fun h => by cases h), fun _ => h⟩
        · exact ⟨true, (fun _ => h), fun h => by cases h⟩
      obtain ⟨x, hx1, hx2⟩ := hcase
      clear hend
      cases x
      · have iz := hx2 rfl
        clear hx1 hx2
        have hn16 := (readsMay_get HS.out.may).2.2
        obtain ⟨k, hk, hkm⟩ : ∃ k : Nat, k < 16 ∧ bits .and .i64 at_ 15 = k := ⟨(at_ % 16).toNat, by omega, by rw [mask15]; omega⟩
        obtain ⟨me, me0, me1, hmm⟩ : ∃ me : Int, 0 ≤ me ∧ me ≤ 127 ∧ bits .and .i64 id 127 = me := ⟨id % 128, by omega, by omega, mask127 _⟩
        have hm254 : upToV me 254 = true := upToV_of me0 (by omega)
        have hm255 : upToV (me + 1) 254 = true := upToV_of (by omega) (by omega)
        have HIN := hide (HS.out.named k hk)
        have hm0 := HS.out
        have CG0 := hide fun w hA h => hG t y va n vc z me w HFit.out hA (by omega) HM.out.1 h
        have o0 := HFo.out.ok HS.out hm254
        simp only [(good_yes o0).1, (good_yes o0).2, HFo.out.good HS.out HZ.out me] at CG0
        have q4 := quarter k
        have m4 := rest4 k
        have g4 : k / 4 < 4 := by omega
        have k4 : k % 4 < 4 := by omega
        have HL := hide (HFo.out.locked HS.out HZ.out g4 k4 me0)
        have HNw := hide (HFo.out.newer HS.out HZ.out g4 k4)
        have HAL := hide (HFo.out.turned (l := k / 4) (k := k % 4) (c := 2) (x := me + 2) g4 k4 (.inr rfl) (upToV_of (by omega) (by omega)))
        have HAV := hide (HFo.out.turned (l := k / 4) (k := k % 4) (c := 1) (x := 3) g4 k4 (.inl rfl) rfl)
        generalize hg' : k / 4 = g at *
        generalize hi' : k % 4 = i at *
        clear hg' hi' o0 hm0
        have c5 := hF.cell (i := k) hk
        unfold boolF at c5
        have i3 : (k : Int) < 16 := by omega
        have ig : (g : Int) < 4 := by omega
        have hmw : IntKind.i64.wrap (me + 2) = me + 2 := IntWalk.i64_in _ ⟨by omega, by omega⟩
        have hmw1 : IntKind.i64.wrap (me + 1) = me + 1 := IntWalk.i64_in _ ⟨by omega, by omega⟩
        clear c5
        obtain ⟨⟨d0, d1, d2, d3⟩, df0, df1, df2, df3⟩ := B9.four
        unfold arenaA at CG0
        go_wp2_with fail
        refine (CG0.out _ HFr.out.arn HM.out.row).mono ?_
        rintro e w4 ⟨rfl, hb'⟩
        replace hb := Below.on hb hb'
        replace B9 := B9.on hb'
        replace hF := hF.on hb'
        replace HFr := hide (HFr.out.on hb')
        replace HM := hide (HM.out.on hb')
        replace hsz : w2.heap.size + 2 ≤ w4.heap.size := by have := hb'.size; omega
        clear hb' d0 d1 d2 d3 df0 df1 df2 df3 CG0
        obtain ⟨b, hta, hBb, hCb, ho⟩ : ∃ b, (t g).a = some ⟨b, 0, none⟩ ∧ WV.heap.size ≤ b ∧ b < w2.heap.size ∧ Own w4 b ((t g).n * 3) (intF (y g)) := by
          obtain ⟨β, h1, _⟩ := HFr.out
          exact ⟨β g, h1 g g4 (by rw [HFo.out.n g g4]; omega)⟩
        have htn := HFo.out.n g g4
        have d0 := B9.cell g _ (arenaL_get t g4)
        rw [hta, htn] at d0
        rw [htn] at ho
        have ik : (i : Int) < 4 := by omega
        cases lock
        · have e1 := ho.cell (i := i * 3 + 1) (by omega)
          have ef1 := ho.frozen (i * 3 + 1)
          unfold intF at e1
          have HFr' := hide (HFr.out.setOne g4 (by rw [htn]; omega) hta (i * 3 + 1) 3)
          have HM' := hide (HM.out.far (p := ⟨b, i * 3 + 1, none⟩) (by simp; omega) (.int .i64 3))
          have B9' := B9.far (a := ⟨b, i * 3 + 1, none⟩) (.int .i64 3) (by simp; omega)
          have hF' := hF.far (a := ⟨b, i * 3 + 1, none⟩) (.int .i64 3) (by simp; omega)
          have hb2 : Below w.heap.size w (w4.setCell ⟨b, i * 3 + 1, none⟩ (.int .i64 3)) := hb.setCell (by simp; omega) _
          have fit' : fitR t (oneZ y g (i * 3 + 1) 3) n z = true := fitR_mk HAV.out HS.out.may (HFo.out.there HS.out)
          have CG1 := hide fun w hA h => hG t (oneZ y g (i * 3 + 1) 3) va n vc z me w HFit.out hA (by omega) HM.out.1 h
          have CG2 := hide fun w hA h => hG t (oneZ y g (i * 3 + 1) 3) va n vc z (me + 1) w HFit.out hA (by omega) HM.out.1 h
          have CC := hide fun w hA h => hC t (oneZ y g (i * 3 + 1) 3) va n vc z w HFit.out hA (by omega) HM.out.1 h
          simp only [(good_yes (goodOk_mk fit' hm254)).1, (good_yes (goodOk_mk fit' hm254)).2, (HNw.out me).1] at CG1
          simp only [(good_yes (goodOk_mk fit' hm255)).1, (good_yes (goodOk_mk fit' hm255)).2, (HNw.out (me + 1)).1] at CG2
          simp only [(chg_yes fit').1, (chg_yes fit').2, (HNw.out me).2] at CC
          unfold arenaA at CG1 CG2 CC
          go_upto_region 18 with (fail)
          clear HFr HM B9 hF hb ho e1 ef1 d0 fit'
          generalize w4.setCell ⟨b, i * 3 + 1, none⟩ (.int .i64 3) = W5 at *
          have HR' := hide HM'.out.row
          have HA' := hide HFr'.out.arn
          clear HM' HFr' HAL HAV HL HNw
          obtain ⟨⟨d0, d1, d2, d3⟩, df0, df1, df2, df3⟩ := B9'.four
          go_wp2_with fail
          refine (CG1.out _ HA'.out HR'.out).mono ?_
          rintro e w6 ⟨rfl, hb'⟩
          replace hb2 := Below.on hb2 hb'
          replace B9' := B9'.on hb'
          replace hF' := hF'.on hb'
          replace HA' := hide (HA'.out.below hb' (Nat.le_refl _))
          replace HR' := hide (HR'.out.below hb' (Nat.le_refl _))
          clear hb' d0 d1 d2 d3 df0 df1 df2 df3 CG1
          obtain ⟨⟨d0, d1, d2, d3⟩, df0, df1, df2, df3⟩ := B9'.four
          go_wp2_with fail
          refine (CG2.out _ HA'.out HR'.out).mono ?_
          rintro e w7 ⟨rfl, hb'⟩
          replace hb2 := Below.on hb2 hb'
          replace B9' := B9'.on hb'
          replace hF' := hF'.on hb'
          replace HA' := hide (HA'.out.below hb' (Nat.le_refl _))
          replace HR' := hide (HR'.out.below hb' (Nat.le_refl _))
          clear hb' d0 d1 d2 d3 df0 df1 df2 df3 CG2
          obtain ⟨⟨d0, d1, d2, d3⟩, df0, df1, df2, df3⟩ := B9'.four
          go_wp2_with fail
          refine (CC.out _ HA'.out HR'.out).mono ?_
          rintro e w8 ⟨rfl, hb'⟩
          replace hb2 := Below.on hb2 hb'
          replace hF' := hF'.on hb'
          clear hb' d0 d1 d2 d3 df0 df1 df2 df3 CC HA' HR' B9'
          have c5 := hF'.cell (i := k) hk
          unfold boolF at c5
          rw [HIN.out] at c5
          clear HIN
          generalize noneTo z (g : Int) (i : Int) n = nq at *
          cases nq
          all_goals
            simp only [Bool.not_true, Bool.not_false] at c5
            go_wp2_with (go_at_call 18; refine (num_any _ _).mono ?_; rintro e w' ⟨rfl, rfl⟩)
            go_ret
            exact ⟨rfl, hb2⟩
        · have e1 := ho.cell (i := i * 3 + 2) (by omega)
          have ef1 := ho.frozen (i * 3 + 2)
          unfold intF at e1
          have HFr' := hide (HFr.out.setOne g4 (by rw [htn]; omega) hta (i * 3 + 2) (me + 2))
          have HM' := hide (HM.out.far (p := ⟨b, i * 3 + 2, none⟩) (by simp; omega) (.int .i64 (me + 2)))
          have B9' := B9.far (a := ⟨b, i * 3 + 2, none⟩) (.int .i64 (me + 2)) (by simp; omega)
          have hF' := hF.far (a := ⟨b, i * 3 + 2, none⟩) (.int .i64 (me + 2)) (by simp; omega)
          have hb2 : Below w.heap.size w (w4.setCell ⟨b, i * 3 + 2, none⟩ (.int .i64 (me + 2))) := hb.setCell (by simp; omega) _
          have fit' : fitR t (oneZ y g (i * 3 + 2) (me + 2)) n z = true := fitR_mk HAL.out HS.out.may (HFo.out.there HS.out)
          have CG1 := hide fun w hA h => hG t (oneZ y g (i * 3 + 2) (me + 2)) va n vc z me w HFit.out hA (by omega) HM.out.1 h
          have CG2 := hide fun w hA h => hG t (oneZ y g (i * 3 + 2) (me + 2)) va n vc z (me + 1) w HFit.out hA (by omega) HM.out.1 h
          have CC := hide fun w hA h => hC t (oneZ y g (i * 3 + 2) (me + 2)) va n vc z w HFit.out hA (by omega) HM.out.1 h
          simp only [(good_yes (goodOk_mk fit' hm254)).1, (good_yes (goodOk_mk fit' hm254)).2, HL.out.1] at CG1
          simp only [(good_yes (goodOk_mk fit' hm255)).1, (good_yes (goodOk_mk fit' hm255)).2, HL.out.2.1] at CG2
          simp only [(chg_yes fit').1, (chg_yes fit').2, HL.out.2.2] at CC
          unfold arenaA at CG1 CG2 CC
          go_upto_region 18 with (fail)
          clear HFr HM B9 hF hb ho e1 ef1 d0 fit'
          generalize w4.setCell ⟨b, i * 3 + 2, none⟩ (.int .i64 (me + 2)) = W5 at *
          have HR' := hide HM'.out.row
          have HA' := hide HFr'.out.arn
          clear HM' HFr' HAL HAV HL HNw
          obtain ⟨⟨d0, d1, d2, d3⟩, df0, df1, df2, df3⟩ := B9'.four
          go_wp2_with fail
          refine (CG1.out _ HA'.out HR'.out).mono ?_
          rintro e w6 ⟨rfl, hb'⟩
          replace hb2 := Below.on hb2 hb'
          replace B9' := B9'.on hb'
          replace hF' := hF'.on hb'
          replace HA' := hide (HA'.out.below hb' (Nat.le_refl _))
          replace HR' := hide (HR'.out.below hb' (Nat.le_refl _))
          clear hb' d0 d1 d2 d3 df0 df1 df2 df3 CG1
          obtain ⟨⟨d0, d1, d2, d3⟩, df0, df1, df2, df3⟩ := B9'.four
          go_wp2_with fail
          refine (CG2.out _ HA'.out HR'.out).mono ?_
          rintro e w7 ⟨rfl, hb'⟩
          replace hb2 := Below.on hb2 hb'
          replace B9' := B9'.on hb'
          replace hF' := hF'.on hb'
          replace HA' := hide (HA'.out.below hb' (Nat.le_refl _))
          replace HR' := hide (HR'.out.below hb' (Nat.le_refl _))
          clear hb' d0 d1 d2 d3 df0 df1 df2 df3 CG2
          obtain ⟨⟨d0, d1, d2, d3⟩, df0, df1, df2, df3⟩ := B9'.four
          go_wp2_with fail
          refine (CC.out _ HA'.out HR'.out).mono ?_
          rintro e w8 ⟨rfl, hb'⟩
          replace hb2 := Below.on hb2 hb'
          replace hF' := hF'.on hb'
          clear hb' d0 d1 d2 d3 df0 df1 df2 df3 CC HA' HR' B9'
          have c5 := hF'.cell (i := k) hk
          unfold boolF at c5
          rw [HIN.out] at c5
          clear HIN
          generalize noneTo z (g : Int) (i : Int) n = nq at *
          cases nq
          all_goals
            simp only [Bool.not_true, Bool.not_false] at c5
            go_wp2_with (go_at_call 18; refine (num_any _ _).mono ?_; rintro e w' ⟨rfl, rfl⟩)
            go_ret
            exact ⟨rfl, hb2⟩
      · obtain ⟨iz, iz2⟩ := hx1 rfl
        clear hx1 hx2
        have hn16 := (readsMay_get HS.out.may).2.2
        obtain ⟨k, hk, hkm⟩ : ∃ k : Nat, k < 16 ∧ bits .and .i64 at_ 15 = k := ⟨(at_ % 16).toNat, by omega, by rw [mask15]; omega⟩
        obtain ⟨me, me0, me1, hmm⟩ : ∃ me : Int, 0 ≤ me ∧ me ≤ 127 ∧ bits .and .i64 id 127 = me := ⟨id % 128, by omega, by omega, mask127 _⟩
        have hm254 : upToV me 254 = true := upToV_of me0 (by omega)
        have hm255 : upToV (me + 1) 254 = true := upToV_of (by omega) (by omega)
        have HIN := hide (HS.out.named k hk)
        have hm0 := HS.out
        have CG0 := hide fun w hA h => hG t y va n vc z me w HFit.out hA (by omega) HM.out.1 h
        have o0 := HFo.out.ok HS.out hm254
        simp only [(good_yes o0).1, (good_yes o0).2, HFo.out.good HS.out HZ.out me] at CG0
        have q4 := quarter k
        have m4 := rest4 k
        have g4 : k / 4 < 4 := by omega
        have k4 : k % 4 < 4 := by omega
        have HL := hide (HFo.out.locked HS.out HZ.out g4 k4 me0)
        have HNw := hide (HFo.out.newer HS.out HZ.out g4 k4)
        have HAL := hide (HFo.out.turned (l := k / 4) (k := k % 4) (c := 2) (x := me + 2) g4 k4 (.inr rfl) (upToV_of (by omega) (by omega)))
        have HAV := hide (HFo.out.turned (l := k / 4) (k := k % 4) (c := 1) (x := 3) g4 k4 (.inl rfl) rfl)
        generalize hg' : k / 4 = g at *
        generalize hi' : k % 4 = i at *
        clear hg' hi' o0 hm0
        have c5 := hF.cell (i := k) hk
        unfold boolF at c5
        have i3 : (k : Int) < 16 := by omega
        have ig : (g : Int) < 4 := by omega
        have hmw : IntKind.i64.wrap (me + 2) = me + 2 := IntWalk.i64_in _ ⟨by omega, by omega⟩
        have hmw1 : IntKind.i64.wrap (me + 1) = me + 1 := IntWalk.i64_in _ ⟨by omega, by omega⟩
        clear c5
        obtain ⟨⟨d0, d1, d2, d3⟩, df0, df1, df2, df3⟩ := B9.four
        unfold arenaA at CG0
        go_wp2_with fail
        refine (CG0.out _ HFr.out.arn HM.out.row).mono ?_
        rintro e w4 ⟨rfl, hb'⟩
        replace hb := Below.on hb hb'
        replace B9 := B9.on hb'
        replace hF := hF.on hb'
        replace HFr := hide (HFr.out.on hb')
        replace HM := hide (HM.out.on hb')
        replace hsz : w2.heap.size + 2 ≤ w4.heap.size := by have := hb'.size; omega
        clear hb' d0 d1 d2 d3 df0 df1 df2 df3 CG0
        obtain ⟨b, hta, hBb, hCb, ho⟩ : ∃ b, (t g).a = some ⟨b, 0, none⟩ ∧ WV.heap.size ≤ b ∧ b < w2.heap.size ∧ Own w4 b ((t g).n * 3) (intF (y g)) := by
          obtain ⟨β, h1, _⟩ := HFr.out
          exact ⟨β g, h1 g g4 (by rw [HFo.out.n g g4]; omega)⟩
        have htn := HFo.out.n g g4
        have d0 := B9.cell g _ (arenaL_get t g4)
        rw [hta, htn] at d0
        rw [htn] at ho
        have ik : (i : Int) < 4 := by omega
        cases lock
        · have e1 := ho.cell (i := i * 3 + 1) (by omega)
          have ef1 := ho.frozen (i * 3 + 1)
          unfold intF at e1
          have HFr' := hide (HFr.out.setOne g4 (by rw [htn]; omega) hta (i * 3 + 1) 3)
          have HM' := hide (HM.out.far (p := ⟨b, i * 3 + 1, none⟩) (by simp; omega) (.int .i64 3))
          have B9' := B9.far (a := ⟨b, i * 3 + 1, none⟩) (.int .i64 3) (by simp; omega)
          have hF' := hF.far (a := ⟨b, i * 3 + 1, none⟩) (.int .i64 3) (by simp; omega)
          have hb2 : Below w.heap.size w (w4.setCell ⟨b, i * 3 + 1, none⟩ (.int .i64 3)) := hb.setCell (by simp; omega) _
          have fit' : fitR t (oneZ y g (i * 3 + 1) 3) n z = true := fitR_mk HAV.out HS.out.may (HFo.out.there HS.out)
          have CG1 := hide fun w hA h => hG t (oneZ y g (i * 3 + 1) 3) va n vc z me w HFit.out hA (by omega) HM.out.1 h
          have CG2 := hide fun w hA h => hG t (oneZ y g (i * 3 + 1) 3) va n vc z (me + 1) w HFit.out hA (by omega) HM.out.1 h
          have CC := hide fun w hA h => hC t (oneZ y g (i * 3 + 1) 3) va n vc z w HFit.out hA (by omega) HM.out.1 h
          simp only [(good_yes (goodOk_mk fit' hm254)).1, (good_yes (goodOk_mk fit' hm254)).2, (HNw.out me).1] at CG1
          simp only [(good_yes (goodOk_mk fit' hm255)).1, (good_yes (goodOk_mk fit' hm255)).2, (HNw.out (me + 1)).1] at CG2
          simp only [(chg_yes fit').1, (chg_yes fit').2, (HNw.out me).2] at CC
          unfold arenaA at CG1 CG2 CC
          go_upto_region 18 with (fail)
          clear HFr HM B9 hF hb ho e1 ef1 d0 fit'
          generalize w4.setCell ⟨b, i * 3 + 1, none⟩ (.int .i64 3) = W5 at *
          have HR' := hide HM'.out.row
          have HA' := hide HFr'.out.arn
          clear HM' HFr' HAL HAV HL HNw
          obtain ⟨⟨d0, d1, d2, d3⟩, df0, df1, df2, df3⟩ := B9'.four
          go_wp2_with fail
          refine (CG1.out _ HA'.out HR'.out).mono ?_
          rintro e w6 ⟨rfl, hb'⟩
          replace hb2 := Below.on hb2 hb'
          replace B9' := B9'.on hb'
          replace hF' := hF'.on hb'
          replace HA' := hide (HA'.out.below hb' (Nat.le_refl _))
          replace HR' := hide (HR'.out.below hb' (Nat.le_refl _))
          clear hb' d0 d1 d2 d3 df0 df1 df2 df3 CG1
          obtain ⟨⟨d0, d1, d2, d3⟩, df0, df1, df2, df3⟩ := B9'.four
          go_wp2_with fail
          refine (CG2.out _ HA'.out HR'.out).mono ?_
          rintro e w7 ⟨rfl, hb'⟩
          replace hb2 := Below.on hb2 hb'
          replace B9' := B9'.on hb'
          replace hF' := hF'.on hb'
          replace HA' := hide (HA'.out.below hb' (Nat.le_refl _))
          replace HR' := hide (HR'.out.below hb' (Nat.le_refl _))
          clear hb' d0 d1 d2 d3 df0 df1 df2 df3 CG2
          obtain ⟨⟨d0, d1, d2, d3⟩, df0, df1, df2, df3⟩ := B9'.four
          go_wp2_with fail
          refine (CC.out _ HA'.out HR'.out).mono ?_
          rintro e w8 ⟨rfl, hb'⟩
          replace hb2 := Below.on hb2 hb'
          replace hF' := hF'.on hb'
          clear hb' d0 d1 d2 d3 df0 df1 df2 df3 CC HA' HR' B9'
          have c5 := hF'.cell (i := k) hk
          unfold boolF at c5
          rw [HIN.out] at c5
          clear HIN
          generalize noneTo z (g : Int) (i : Int) n = nq at *
          cases nq
          all_goals
            simp only [Bool.not_true, Bool.not_false] at c5
            go_wp2_with (go_at_call 18; refine (num_any _ _).mono ?_; rintro e w' ⟨rfl, rfl⟩)
            go_ret
            exact ⟨rfl, hb2⟩
        · have e1 := ho.cell (i := i * 3 + 2) (by omega)
          have ef1 := ho.frozen (i * 3 + 2)
          unfold intF at e1
          have HFr' := hide (HFr.out.setOne g4 (by rw [htn]; omega) hta (i * 3 + 2) (me + 2))
          have HM' := hide (HM.out.far (p := ⟨b, i * 3 + 2, none⟩) (by simp; omega) (.int .i64 (me + 2)))
          have B9' := B9.far (a := ⟨b, i * 3 + 2, none⟩) (.int .i64 (me + 2)) (by simp; omega)
          have hF' := hF.far (a := ⟨b, i * 3 + 2, none⟩) (.int .i64 (me + 2)) (by simp; omega)
          have hb2 : Below w.heap.size w (w4.setCell ⟨b, i * 3 + 2, none⟩ (.int .i64 (me + 2))) := hb.setCell (by simp; omega) _
          have fit' : fitR t (oneZ y g (i * 3 + 2) (me + 2)) n z = true := fitR_mk HAL.out HS.out.may (HFo.out.there HS.out)
          have CG1 := hide fun w hA h => hG t (oneZ y g (i * 3 + 2) (me + 2)) va n vc z me w HFit.out hA (by omega) HM.out.1 h
          have CG2 := hide fun w hA h => hG t (oneZ y g (i * 3 + 2) (me + 2)) va n vc z (me + 1) w HFit.out hA (by omega) HM.out.1 h
          have CC := hide fun w hA h => hC t (oneZ y g (i * 3 + 2) (me + 2)) va n vc z w HFit.out hA (by omega) HM.out.1 h
          simp only [(good_yes (goodOk_mk fit' hm254)).1, (good_yes (goodOk_mk fit' hm254)).2, HL.out.1] at CG1
          simp only [(good_yes (goodOk_mk fit' hm255)).1, (good_yes (goodOk_mk fit' hm255)).2, HL.out.2.1] at CG2
          simp only [(chg_yes fit').1, (chg_yes fit').2, HL.out.2.2] at CC
          unfold arenaA at CG1 CG2 CC
          go_upto_region 18 with (fail)
          clear HFr HM B9 hF hb ho e1 ef1 d0 fit'
          generalize w4.setCell ⟨b, i * 3 + 2, none⟩ (.int .i64 (me + 2)) = W5 at *
          have HR' := hide HM'.out.row
          have HA' := hide HFr'.out.arn
          clear HM' HFr' HAL HAV HL HNw
          obtain ⟨⟨d0, d1, d2, d3⟩, df0, df1, df2, df3⟩ := B9'.four
          go_wp2_with fail
          refine (CG1.out _ HA'.out HR'.out).mono ?_
          rintro e w6 ⟨rfl, hb'⟩
          replace hb2 := Below.on hb2 hb'
          replace B9' := B9'.on hb'
          replace hF' := hF'.on hb'
          replace HA' := hide (HA'.out.below hb' (Nat.le_refl _))
          replace HR' := hide (HR'.out.below hb' (Nat.le_refl _))
          clear hb' d0 d1 d2 d3 df0 df1 df2 df3 CG1
          obtain ⟨⟨d0, d1, d2, d3⟩, df0, df1, df2, df3⟩ := B9'.four
          go_wp2_with fail
          refine (CG2.out _ HA'.out HR'.out).mono ?_
          rintro e w7 ⟨rfl, hb'⟩
          replace hb2 := Below.on hb2 hb'
          replace B9' := B9'.on hb'
          replace hF' := hF'.on hb'
          replace HA' := hide (HA'.out.below hb' (Nat.le_refl _))
          replace HR' := hide (HR'.out.below hb' (Nat.le_refl _))
          clear hb' d0 d1 d2 d3 df0 df1 df2 df3 CG2
          obtain ⟨⟨d0, d1, d2, d3⟩, df0, df1, df2, df3⟩ := B9'.four
          go_wp2_with fail
          refine (CC.out _ HA'.out HR'.out).mono ?_
          rintro e w8 ⟨rfl, hb'⟩
          replace hb2 := Below.on hb2 hb'
          replace hF' := hF'.on hb'
          clear hb' d0 d1 d2 d3 df0 df1 df2 df3 CC HA' HR' B9'
          have c5 := hF'.cell (i := k) hk
          unfold boolF at c5
          rw [HIN.out] at c5
          clear HIN
          generalize noneTo z (g : Int) (i : Int) n = nq at *
          cases nq
          all_goals
            simp only [Bool.not_true, Bool.not_false] at c5
            go_wp2_with (go_at_call 18; refine (num_any _ _).mono ?_; rintro e w' ⟨rfl, rfl⟩)
            go_ret
            exact ⟨rfl, hb2⟩

end Go.Proofs.Ytleemagdidffpaa
