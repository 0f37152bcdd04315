/-
  The document's Grab.
-/
import Derived.Test.YtnjognmnbpcaaaaGreatZlah
import Derived.Test.YtnjognmnbpcaaaaGreatZlab
namespace Go.Proofs.YtnjognmnbpcaaaaGreat
open Go.RowKit
set_option linter.unusedSimpArgs false
set_option linter.unusedVariables false
/-- The write that is next: its level, its place, its value; that word's numbers. -/
def PSess.wl (x : PSess) (c : Nat) : Int := lz x.writes (x.at_.toNat * 3 + c)
def PMach.wn (M : PMach) (x : PSess) (c : Nat) : Int := M.wz (x.wl 0).toNat ((x.wl 1).toNat * 3 + c)
def grabP (M : PMach) (i : Int) : PMach × Int :=
  bif leftP M i 1 then
    bif decide (lockE (M.wn (M.at i.toNat) 0) (M.wn (M.at i.toNat) 1) (M.wn (M.at i.toNat) 2) (lz (M.at i.toNat).num 0) = 0) then
      bif decide ((M.at i.toNat).at_ + 1 = ((M.at i.toNat).tn : Int)) then ((((M.doW ((M.at i.toNat).wl 0).toNat ((M.at i.toNat).wl 1).toNat (M.wn (M.at i.toNat) 0) (M.wn (M.at i.toNat) 1) (lz (M.at i.toNat).num 0 + 1)).doN i.toNat 9 ((M.at i.toNat).at_ + 1)).doN i.toNat 3 2), 0)
      else (((M.doW ((M.at i.toNat).wl 0).toNat ((M.at i.toNat).wl 1).toNat (M.wn (M.at i.toNat) 0) (M.wn (M.at i.toNat) 1) (lz (M.at i.toNat).num 0 + 1)).doN i.toNat 9 ((M.at i.toNat).at_ + 1)), 0)
    else againP M i 3
  else (noMach, 1800)
theorem lockW_nums (v n l i : Int) : ∃ x0 x1 x2, lockW v n l i = wordA x0 x1 x2 ∧ (lockE v n l i = 0 → x0 = v ∧ x1 = n ∧ x2 = i + 1) := by
  unfold lockW lockE
  cases wmay v n l && upToV i 254
  · exact ⟨0, 0, 0, rfl, fun h => absurd h (by show ¬ (300 : Int) = 0; decide)⟩
  · by_cases hl : l = 0
    · exact ⟨v, n, i + 1, by rw [cond_true, if_pos hl], fun _ => ⟨rfl, rfl, rfl⟩⟩
    · exact ⟨0, 0, 0, by rw [cond_true, if_neg hl], fun h => by rw [cond_true, if_neg hl] at h; exact absurd h (by decide)⟩
theorem machL_lv {A : MacM} {M : PMach} {g : Nat} (hg : g < 4) : (machL A M)[g]? = some (.slice (A.w g).a (A.w g).n (A.w g).c) := by
  have : g = 0 ∨ g = 1 ∨ g = 2 ∨ g = 3 := by omega
  rcases this with rfl | rfl | rfl | rfl <;> rfl
theorem leftP_yes {M : PMach} {i s : Int} (h : leftP M i s = true) : hereP M i = true ∧ (M.at i.toNat).step = s ∧ (M.at i.toNat).at_ < ((M.at i.toNat).tn : Int) := by
  unfold leftP at h
  simpa using h
/-- The next write: its word is there. -/
theorem SessOk.next {s : Nat → Sl} {x : PSess} (h : SessOk s x) (hl : x.at_ < (x.tn : Int)) : ∃ j g ix : Nat, lz x.num 9 = j ∧ j < x.tn ∧ (x.wl 0 = g ∧ lz x.writes (j * 3) = g) ∧ (x.wl 1 = ix ∧ lz x.writes (j * 3 + 1) = ix) ∧ x.wl 2 = lz x.writes (j * 3 + 2) ∧ g < 4 ∧ ix < (s g).n := by
  have h0 := h.at_.1
  obtain ⟨j, hj⟩ : ∃ j : Nat, lz x.num 9 = j := ⟨(lz x.num 9).toNat, (Int.toNat_of_nonneg h0).symm⟩
  have hj' : x.at_ = j := hj
  have hlt : j < x.tn := by omega
  have ht := allTo_get h.writesT j hlt
  obtain ⟨g, ix, e1, e2, hg, hx⟩ := thereV_get (show thereV s (lz x.writes (j * 3)) (lz x.writes (j * 3 + 1)) = true from ht)
  have w : ∀ c, x.wl c = lz x.writes (j * 3 + c) := fun c => by unfold PSess.wl; rw [hj', Int.toNat_natCast]
  exact ⟨j, g, ix, hj, hlt, ⟨by rw [w 0, Nat.add_zero]; exact e1, e1⟩, ⟨by rw [w 1]; exact e2, e2⟩, w 2, hg, hx⟩
set_option maxRecDepth 100000 in
set_option maxHeartbeats 4000000 in
theorem rgrab_any (A : MacM) (M : PMach) (i : Int) (w : World) (h : MachIs w A M) :
    Calls Tryz.prog 64 #[machA A M, .int .i64 i] w (MRet w (grabP M i)) := by
  have hX := hide h.sess.1
  have hHere := hide fun (i : Int) (W : World) (hb : Below w.heap.size w W) => rhere_any A M i W (h.below hb)
  have hRun := hide fun (k : Nat) (hk : k < A.s.n) (hp : 0 ≤ (M.at k).pc) (W : World) (hb : Below w.heap.size w W) => rrunning_any A M k W (h.below hb) hk hp
  have hNeeds := hide fun (i : Int) (W : World) (hb : Below w.heap.size w W) => rneeds_any A M i W (h.below hb)
  have hAgain := hide fun (i c : Int) (W : World) (hb : Below w.heap.size w W) => ragain_any A M i c W (h.below hb)
  have hEnd := hide fun (i a b : Int) (W : World) (hb : Below w.heap.size w W) => rend_any A M i a b W (h.below hb)
  have hCopy := hide fun (W : World) (hb : Below w.heap.size w W) => rcopyMach_any A M W (h.below hb)
  have hrng := hide fun (k : Nat) (hk : k < A.s.n) (W : World) (hb : Below w.heap.size w W) => (h.below hb).sess.range hk
  have hSes : Hid (∀ (k : Nat) (hk : k < A.s.n) (W : World) (hb : Below w.heap.size w W), SessIs W (A.q k) (M.at k)) := fun k hk W hb => (h.below hb).sess.2.2.2 k hk
  have hIns := hide fun (k : Nat) (hk : k < A.s.n) (hok : SessOk M.lens (M.at k)) (c : Int) (hr : runP (M.at k) = c) (hc : c ≠ -1) => ins_at h hk hok hr hc
  have hLeft := hide fun (W : World) (hb : Below w.heap.size w W) => rleft_any A M i 1 W (h.below hb)
  obtain ⟨V0, hV0⟩ : ∃ V0, V0 = machA A M := ⟨_, rfl⟩
  rw [← hV0]
  have HV : Hid (V0.cells = (machL A M).toArray) := by rw [hV0]; rfl
  clear hV0
  have HM := hide h
  have HS := hide (St.refl w)
  clear h
  go_enter Tryz.func64, Tryz.ntmps64
  go_wp2_with (first | ((with_reducible refine isList ?_); first | (refine st_box HS _ _ rfl rfl (machL A M) HV.out ?_; clear HS; intro W bm HS) | (refine st_alloc HS _ rfl rfl zeroML zeroM ?_; clear HS; intro W br HS) | (refine st_loadA HS 1 rfl _ _ rfl rfl rfl (by decide +kernel) (by kernel_rfl) ?_)))
  refine (hLeft.out _ HS.out.below).mono ?_
  rintro e W1 ⟨rfl, hb⟩
  replace HS := hide (HS.out.on hb)
  clear hb hLeft
  cases hl0 : leftP M i 1
  case false =>
    go_wp2_with (first | ((with_reducible refine isList ?_); first | (refine st_storeA HS 0 rfl _ _ _ rfl rfl rfl _ rfl rfl (by kernel_rfl) rfl ?_; clear HS; intro W HS)))
    rw [show grabP M i = (noMach, 1800) by unfold grabP; rw [hl0]; rfl]
    exact bodyPost_ret (ret_mach2 Tryz.results64 (HS.out.blk 0 rfl) rfl rfl rfl) rfl (mret_no HS.out.below)
  obtain ⟨hh, hst, hlt⟩ := leftP_yes hl0
  obtain ⟨hmay, k, rfl, hk0⟩ := hereP_yes hh
  rw [Int.toNat_natCast] at hst hlt
  have hk : k < A.s.n := by have := hX.out; omega
  have hok := here_sess hmay hk0
  have i2 : (k : Int) < (A.s.n : Int) := by omega
  obtain ⟨j, g, ix, hj, hjt, ⟨w0, z0⟩, ⟨w1, z1⟩, w2, hg, hix⟩ := hok.next hlt
  obtain ⟨_, hsP, hsR, hsT⟩ := hSes.out k hk _ HS.out.below
  have eT : (M.at k).tn = (A.q k).t.n := hsT.len (by decide)
  have hjn : j < (A.q k).t.n := by omega
  have hj16 : j < 16 := by have := (writesMay_get hok.writes).few; omega
  have hixn : ix < (A.w g).n := by rw [(HM.out.below HS.out.below).lens g hg]; exact hix
  obtain ⟨v, hv⟩ : ∃ v, v = M.wz g (ix * 3) := ⟨_, rfl⟩
  obtain ⟨n, hn⟩ : ∃ n, n = M.wz g (ix * 3 + 1) := ⟨_, rfl⟩
  obtain ⟨l, hl⟩ : ∃ l, l = M.wz g (ix * 3 + 2) := ⟨_, rfl⟩
  obtain ⟨pv, hpv⟩ : ∃ pv, pv = (M.at k).wl 2 := ⟨_, rfl⟩
  obtain ⟨id, hid⟩ : ∃ id, id = lz (M.at k).num 0 := ⟨_, rfl⟩
  have eS : Hid (grabP M k = bif decide (lockE v n l id = 0) then (bif decide ((j : Int) + 1 = ((A.q k).t.n : Int)) then ((((M.doW g ix v n (id + 1)).doN k 9 ((j : Int) + 1)).doN k 3 2), 0) else (((M.doW g ix v n (id + 1)).doN k 9 ((j : Int) + 1)), 0)) else againP M k 3) := by
    show grabP M k = _
    have e : ∀ c, M.wn (M.at k) c = M.wz g (ix * 3 + c) := fun c => by unfold PMach.wn; rw [w0, w1, Int.toNat_natCast, Int.toNat_natCast]
    unfold grabP
    rw [hl0, Int.toNat_natCast, e 0, e 1, e 2, Nat.add_zero, ← hv, ← hn, ← hl, ← hid, w0, w1, Int.toNat_natCast, Int.toNat_natCast, eT, show (M.at k).at_ = j from hj]; rfl
  have hcw : Hid (∀ W', Below w.heap.size w W' → ∃ bw ow, (A.w g).a = some ⟨bw, ow, none⟩ ∧ W'.rangeAt bw (ow + ix * 3) [.int .i64 v, .int .i64 n, .int .i64 l]) := fun W' hb => by
    obtain ⟨bw, ow, e1, _, e3⟩ := ((HM.out.below hb).words g hg).three hixn
    rw [hv, hn, hl]
    exact ⟨bw, ow, e1, e3⟩
  obtain ⟨bw, ow, hbw, _⟩ := hcw.out _ HS.out.below
  have hcw2 : Hid (∀ W', Below w.heap.size w W' → W'.rangeAt bw (ow + ix * 3) [.int .i64 v, .int .i64 n, .int .i64 l]) := fun W' hb => by
    obtain ⟨bw', ow', e1, e3⟩ := hcw.out W' hb
    rw [hbw] at e1; cases e1
    exact e3
  have hsx : Hid (∀ W' (b : Nat), Blk W' b (sessL (lz (M.at k).num) (.slice (A.q k).p.a (A.q k).p.n (A.q k).p.c) (.slice (A.q k).r.a (A.q k).r.n (A.q k).r.c) (.slice (A.q k).t.a (A.q k).t.n (A.q k).t.c)) → W'.cell? ⟨b, 0, none⟩ = some (.int .i64 id)) := fun W' b h => by rw [hid]; exact h.cell 0 _ rfl
  have hzw : Hid ([Value.int .i64 (lz (M.at k).writes (j * 3)), .int .i64 (lz (M.at k).writes (j * 3 + 1)), .int .i64 (lz (M.at k).writes (j * 3 + 2))] = [.int .i64 (g : Int), .int .i64 (ix : Int), .int .i64 pv]) := by
    show _ = _
    rw [z0, z1, ← w2, ← hpv]
  replace hj := hide hj
  have i1 : (j : Int) < ((A.q k).t.n : Int) := by omega
  have i5 : (g : Int) < 4 := by omega
  have i6 : (ix : Int) < ((A.w g).n : Int) := by omega
  replace hmay := hide hmay
  replace hok := hide hok
  clear hh hst hlt hsP hsR hsT eT hjt w0 w1 w2 z0 z1 hv hn hl hpv hid hl0 hcw hRun hNeeds hIns
  go_upto_region 3 with fail
  obtain ⟨bs, off, hbs, hbl, hR⟩ := hrng.out k hk _ HS.out.below
  replace hR := hide hR
  go_upto_region 4 with (first | ((with_reducible refine isList ?_); first | (refine st_load1 HS 1 rfl _ _ rfl _ rfl rfl (by decide +kernel) rfl ?_) | (refine wpList_load_at _ _ rfl rfl bs (off + k * 17) rfl (sessOf (A.q k) (M.at k)) (by decide +kernel) (by kernel_rfl) hR.out ?_) | (refine st_alloc HS _ rfl rfl zeroSL zeroS ?_; clear HS; intro W bx HS) | (refine st_storeA HS 0 rfl _ _ _ rfl rfl rfl _ rfl rfl (by kernel_rfl) rfl ?_; clear HS; intro W HS)))
  replace HS : Hid (St w W [blkI bx (sessL (lz (M.at k).num) (.slice (A.q k).p.a (A.q k).p.n (A.q k).p.c) (.slice (A.q k).r.a (A.q k).r.n (A.q k).r.c) (.slice (A.q k).t.a (A.q k).t.n (A.q k).t.c)), blkI br zeroML, blkI bm (machL A M)]) := HS
  clear hR hbs
  obtain ⟨bp, op, hbp, hpl, hR⟩ := (hSes.out k hk _ HS.out.below).2.2.2.three hjn
  rw [hzw.out] at hR
  replace hR := hide hR
  have hj5 := hj.out
  go_upto_region 5 with (first | ((with_reducible refine isList ?_); first | (refine st_load1 HS 0 rfl _ _ rfl _ rfl rfl (by decide +kernel) rfl ?_) | (refine wpList_load_at _ _ rfl rfl bp (op + j * 3) rfl [.int .i64 (g : Int), .int .i64 (ix : Int), .int .i64 pv] (by decide +kernel) (by kernel_rfl) hR.out ?_) | (refine st_alloc HS _ rfl rfl zeroTL zeroT ?_; clear HS; intro W bi HS) | (refine st_storeA HS 0 rfl _ _ _ rfl rfl rfl _ rfl rfl (by kernel_rfl) rfl ?_; clear HS; intro W HS)))
  replace HS : Hid (St w W [blkI bi [.int .i64 (g : Int), .int .i64 (ix : Int), .int .i64 pv], blkI bx (sessL (lz (M.at k).num) (.slice (A.q k).p.a (A.q k).p.n (A.q k).p.c) (.slice (A.q k).r.a (A.q k).r.n (A.q k).r.c) (.slice (A.q k).t.a (A.q k).t.n (A.q k).t.c)), blkI br zeroML, blkI bm (machL A M)]) := HS
  clear hR hbp hj5
  have HB0 := HS.out.blk 0 rfl
  have HB1 := HS.out.blk 1 rfl
  have HB3 := HS.out.blk 3 rfl
  (try simp only [Act.put, List.setIfInBounds_toArray, List.set_cons_zero, List.set_cons_succ])
  obtain ⟨x0, x1, x2, hlw, hx⟩ := lockW_nums v n l id
  have hLock := hide fun (W : World) => rlock_any v n l id W
  rw [hlw] at hLock
  obtain ⟨E0, hE0⟩ : ∃ E0, E0 = lockE v n l id := ⟨_, rfl⟩
  rw [← hE0] at hLock
  rw [← hE0] at hx eS
  replace hx := hide hx
  clear hlw hE0
  refine wp_region_fork [true, true, true, true, true, true, true, true, true, true, true, false, false, false, false, false, false, false] 11 [12, 13, 14, 15, 16, 17] [3, 3, 3, 0, 1, 2] 15 [11, 12, 13, 14, 16, 17] [0, 3, 3, 3, 1, 2] (fun w' => Blk w' bi [.int .i64 (g : Int), .int .i64 (ix : Int), .int .i64 pv] ∧ Blk w' bx (sessL (lz (M.at k).num) (.slice (A.q k).p.a (A.q k).p.n (A.q k).p.c) (.slice (A.q k).r.a (A.q k).r.n (A.q k).r.c) (.slice (A.q k).t.a (A.q k).t.n (A.q k).t.c)) ∧ Blk w' bm (machL A M) ∧ w'.rangeAt bw (ow + ix * 3) [.int .i64 v, .int .i64 n, .int .i64 l]) (by kernel_rfl) (by kernel_rfl) (by kernel_rfl) (by decide +kernel) ⟨HB0.drew, HB1.drew, HB3.drew, hcw2.out _ HS.out.drew.below⟩ ?_
  intro kne
  simp only [pickAt]
  repeat (first | ((first | (refine wpQuiet_ld _ _ rfl ⟨bi, 0, none⟩ rfl rfl (by decide +kernel) (fun w hC => hC.1.cell 0 _ rfl) ?_) | (refine wpQuiet_ld _ _ rfl ⟨bi, 1, none⟩ rfl rfl (by decide +kernel) (fun w hC => hC.1.cell 1 _ rfl) ?_) | (refine wpQuiet_ld _ _ rfl ⟨bi, 2, none⟩ rfl rfl (by decide +kernel) (fun w hC => hC.1.cell 2 _ rfl) ?_) | (refine wpQuiet_ld _ _ rfl ⟨bm, g, none⟩ rfl rfl (by decide +kernel) (fun w hC => hC.2.2.1.cell g _ (machL_lv hg)) ?_) | (refine wpQuiet_la _ _ rfl bw (ow + ix * 3) rfl rfl (by decide +kernel) [.int .i64 v, .int .i64 n, .int .i64 l] (by kernel_rfl) (fun w hC => hC.2.2.2) ?_) | (refine wpQuiet_ld _ _ rfl ⟨bx, 0, none⟩ rfl rfl (by decide +kernel) (fun w hC => hsx.out _ _ hC.2.1) ?_)); simp only [Act.put, List.setIfInBounds_toArray, List.set_cons_zero, List.set_cons_succ]) | go_big_quiet_step (fail))
  refine wpQuiet_nil ?_
  clear kne HB0 HB1 HB3
  replace HS := hide HS.out.drew
  generalize W.drew = Wd at *
  simp only [pickIx, List.getElem?_cons_zero, List.getElem?_cons_succ]
  clear hbw
  refine ⟨?_, ?_⟩
  case' refine_1 =>
    refine wpRest_cons rfl rfl fun K hK => ?_
    go_big_op
    refine (hLock.out _).mono ?_
    rintro e W3 ⟨rfl, hb⟩
    replace HS := hide (HS.out.on hb)
    clear hb
    refine hK _ _ (fun _ => InC.mk ⟨HS.out.blk 0 rfl, HS.out.blk 1 rfl, HS.out.blk 3 rfl, hcw2.out _ HS.out.below⟩) ?_
    clear hK K
    (try simp only [Act.put, List.setIfInBounds_toArray, List.set_cons_zero, List.set_cons_succ])
    refine wpRest_move _ rfl rfl rfl ?_
    (try simp only [Act.put, List.setIfInBounds_toArray, List.set_cons_zero, List.set_cons_succ])
    refine wpRest_extract _ 0 rfl rfl rfl rfl ?_
    (try simp only [Act.put, List.setIfInBounds_toArray, List.set_cons_zero, List.set_cons_succ])
    refine wpRest_extract _ 1 rfl rfl rfl rfl ?_
    (try simp only [Act.put, List.setIfInBounds_toArray, List.set_cons_zero, List.set_cons_succ])
    refine wpRest_cons rfl rfl fun K hK => ?_
    refine stw_alloc HS _ rfl zeroWL zeroW ?_
    clear HS
    intro W4 b8 HS
    refine hK _ _ (fun _ => InC.mk ⟨HS.out.blk 1 rfl, HS.out.blk 2 rfl, HS.out.blk 4 rfl, hcw2.out _ HS.out.below⟩) ?_
    clear hK K
    (try simp only [Act.put, List.setIfInBounds_toArray, List.set_cons_zero, List.set_cons_succ])
  case' refine_2 =>
    refine wpRest_cons rfl rfl fun K hK => ?_
    refine stw_alloc HS _ rfl zeroWL zeroW ?_
    clear HS
    intro W4 b8 HS
    refine hK _ _ (fun _ => InC.mk ⟨HS.out.blk 1 rfl, HS.out.blk 2 rfl, HS.out.blk 4 rfl, hcw2.out _ HS.out.below⟩) ?_
    clear hK K
    (try simp only [Act.put, List.setIfInBounds_toArray, List.set_cons_zero, List.set_cons_succ])
    refine wpRest_cons rfl rfl fun K hK => ?_
    go_big_op
    refine (hLock.out _).mono ?_
    rintro e W3 ⟨rfl, hb⟩
    replace HS := hide (HS.out.on hb)
    clear hb
    refine hK _ _ (fun _ => InC.mk ⟨HS.out.blk 1 rfl, HS.out.blk 2 rfl, HS.out.blk 4 rfl, hcw2.out _ HS.out.below⟩) ?_
    clear hK K
    (try simp only [Act.put, List.setIfInBounds_toArray, List.set_cons_zero, List.set_cons_succ])
    refine wpRest_move _ rfl rfl rfl ?_
    (try simp only [Act.put, List.setIfInBounds_toArray, List.set_cons_zero, List.set_cons_succ])
    refine wpRest_extract _ 0 rfl rfl rfl rfl ?_
    (try simp only [Act.put, List.setIfInBounds_toArray, List.set_cons_zero, List.set_cons_succ])
    refine wpRest_extract _ 1 rfl rfl rfl rfl ?_
    (try simp only [Act.put, List.setIfInBounds_toArray, List.set_cons_zero, List.set_cons_succ])
  all_goals
    refine wpRest_cons rfl rfl fun K hK => ?_
    refine stw_storeA HS 0 rfl _ _ _ rfl rfl [.int .i64 x0, .int .i64 x1, .int .i64 x2] rfl rfl (by kernel_rfl) rfl ?_
    clear HS
    intro W5 HS
    refine hK _ _ (fun h => by cases h) ?_
    clear hK K
    (try simp only [Act.put, List.setIfInBounds_toArray, List.set_cons_zero, List.set_cons_succ])
    refine wpRest_assign _ rfl rfl rfl (wpRest_nil ?_)
    (try simp only [Act.put, List.setIfInBounds_toArray, List.set_cons_zero, List.set_cons_succ])
    refine NoPanic.normal ?_
    replace HS : Hid (St w W5 [blkI b8 [.int .i64 x0, .int .i64 x1, .int .i64 x2], blkI bi [.int .i64 (g : Int), .int .i64 (ix : Int), .int .i64 pv], blkI bx (sessL (lz (M.at k).num) (.slice (A.q k).p.a (A.q k).p.n (A.q k).p.c) (.slice (A.q k).r.a (A.q k).r.n (A.q k).r.c) (.slice (A.q k).t.a (A.q k).t.n (A.q k).t.c)), blkI br zeroML, blkI bm (machL A M)]) := HS
    by_cases he : E0 = 0
    · have heb : (E0 != 0) = false := by simpa using he
      obtain ⟨y0, y1, y2⟩ := hx.out he
      rw [← y0, ← y1, ← y2] at eS
      clear y0 y1 y2
      rw [decide_eq_true he] at eS
      replace he := hide he
      go_wp2_with (first | ((with_reducible refine isList ?_); first | (refine st_loadA HS 4 rfl _ _ rfl rfl rfl (by decide +kernel) (by kernel_rfl) ?_)))
      refine (hCopy.out _ HS.out.below).mono ?_
      rintro e W2 ⟨A1, rfl, hO, hb⟩
      have HS1 := hide (HS.out.push hb (machI (fun k => _) A1 M) (machI_loc _ _ _) hO fun k hk => hk)
      generalize (fun k => _) = D1 at HS1
      have hk1 : k < A1.s.n := by have := hO.is.sess.1; have := hX.out; omega
      have i4 : (k : Int) < (A1.s.n : Int) := by omega
      have hlw : ix < (A1.w g).n := by
        have := (hO.is.lens g hg).trans ((HM.out.below (HS.out.below)).lens g hg).symm
        omega
      have i7 : (ix : Int) < ((A1.w g).n : Int) := by omega
      obtain ⟨bs1, hbs1, _⟩ := MachOwn.sblk hO hk1
      obtain ⟨bw1, hbw1, _⟩ := MachOwn.wblk hO hg (by omega)
      clear HS hb hO hCopy
      replace HS := HS1
      clear HS1
      replace hbs1 := hide hbs1
      replace hbw1 := hide hbw1
      go_upto_region 9 with (first | ((with_reducible refine isList ?_); first | (refine st_alloc HS _ rfl rfl zeroML zeroM ?_; clear HS; intro W bo HS) | (refine st_storeA HS 0 rfl _ _ _ rfl rfl rfl _ rfl rfl (by kernel_rfl) rfl ?_; clear HS; intro W HS)))
      replace HS : Hid (St w W [blkI bo (machL A1 M), machI D1 A1 M, blkI b8 [.int .i64 x0, .int .i64 x1, .int .i64 x2], blkI bi [.int .i64 (g : Int), .int .i64 (ix : Int), .int .i64 pv], blkI bx (sessL (lz (M.at k).num) (.slice (A.q k).p.a (A.q k).p.n (A.q k).p.c) (.slice (A.q k).r.a (A.q k).r.n (A.q k).r.c) (.slice (A.q k).t.a (A.q k).t.n (A.q k).t.c)), blkI br zeroML, blkI bm (machL A M)]) := HS
      have HB0 := HS.out.blk 0 rfl
      have HB2 := HS.out.blk 2 rfl
      have HB3 := HS.out.blk 3 rfl
      have hbw2 := hbw1.out
      (try simp only [Act.put, List.setIfInBounds_toArray, List.set_cons_zero, List.set_cons_succ])
      refine wp_region_mask [true, true, true, true, true, true, true, true, true, false] [false, false, false, false, false, false, false, false, false, true] [1] (fun w' => Blk w' bo (machL A1 M) ∧ Blk w' b8 [.int .i64 x0, .int .i64 x1, .int .i64 x2] ∧ Blk w' bi [.int .i64 (g : Int), .int .i64 (ix : Int), .int .i64 pv]) (by kernel_rfl) (by kernel_rfl) (by kernel_rfl) (by decide +kernel) ⟨HB0.drew, HB2.drew, HB3.drew⟩ ?_
      intro kne
      simp only [pickAt]
      repeat (first | ((first | (refine wpQuiet_ld _ _ rfl ⟨bi, 0, none⟩ rfl rfl (by decide +kernel) (fun w hC => hC.2.2.cell 0 _ rfl) ?_) | (refine wpQuiet_ld _ _ rfl ⟨bi, 1, none⟩ rfl rfl (by decide +kernel) (fun w hC => hC.2.2.cell 1 _ rfl) ?_) | (refine wpQuiet_ld _ _ rfl ⟨bo, g, none⟩ rfl rfl (by decide +kernel) (fun w hC => hC.1.cell g _ (machL_lv hg)) ?_) | (refine wpQuiet_la _ _ rfl b8 (0) rfl rfl (by decide +kernel) [.int .i64 x0, .int .i64 x1, .int .i64 x2] (by kernel_rfl) (fun w hC => hC.2.1.range) ?_)); simp only [Act.put, List.setIfInBounds_toArray, List.set_cons_zero, List.set_cons_succ]) | go_big_quiet_step (fail))
      refine wpQuiet_nil ?_
      clear kne HB0 HB2 HB3
      replace HS := hide HS.out.drew
      generalize W.drew = Wd1 at *
      refine wpRest_cons rfl rfl fun K hK => ?_
      refine stw_storeWW HS 1 rfl hg hlw hbw2 _ _ _ rfl _ rfl rfl (v := x0) (n := x1) (l := x2) rfl (by decide +kernel) ?_
      clear HS
      intro W6 HS
      refine hK _ _ (fun h => by cases h) (wpRest_nil ?_)
      clear hK K hbw2
      (try simp only [Act.put, List.setIfInBounds_toArray, List.set_cons_zero, List.set_cons_succ])
      refine NoPanic.normal ?_
      replace HS : Hid (St w W6 [blkI bo (machL A1 (M.doW g ix x0 x1 x2)), machI D1 A1 (M.doW g ix x0 x1 x2), blkI b8 [.int .i64 x0, .int .i64 x1, .int .i64 x2], blkI bi [.int .i64 (g : Int), .int .i64 (ix : Int), .int .i64 pv], blkI bx (sessL (lz (M.at k).num) (.slice (A.q k).p.a (A.q k).p.n (A.q k).p.c) (.slice (A.q k).r.a (A.q k).r.n (A.q k).r.c) (.slice (A.q k).t.a (A.q k).t.n (A.q k).t.c)), blkI br zeroML, blkI bm (machL A M)]) := HS
      have hj1 : lz ((M.doW g ix x0 x1 x2).at k).num 9 = j := hj.out
      generalize M.doW g ix x0 x1 x2 = M1 at HS eS hj1
      replace hbs1 := hbs1.out
      go_upto_region 11 with (first | ((with_reducible refine isList ?_); first | (refine st_load1 HS 0 rfl _ _ rfl _ rfl rfl (by decide +kernel) rfl ?_) | (refine st_loadS (MachOwn.is (HS.out.get 1 (x := machI D1 A1 M1) rfl)) hk1 hbs1 12 (by decide) rfl _ _ rfl _ rfl (by rw [Nat.zero_add] <;> rfl) rfl (by decide +kernel) ?_) | (refine st_storeN HS 1 rfl hk1 hbs1 9 (by decide) _ _ _ rfl _ rfl (show _ = k * 17 + 12 from by with_reducible rfl) rfl rfl (by decide +kernel) ?_; clear HS; intro W HS)))
      replace HS : Hid (St w W [blkI bo (machL A1 (M1.doN k 9 ((j : Int) + 1))), machI D1 A1 (M1.doN k 9 ((j : Int) + 1)), blkI b8 [.int .i64 x0, .int .i64 x1, .int .i64 x2], blkI bi [.int .i64 (g : Int), .int .i64 (ix : Int), .int .i64 pv], blkI bx (sessL (lz (M.at k).num) (.slice (A.q k).p.a (A.q k).p.n (A.q k).p.c) (.slice (A.q k).r.a (A.q k).r.n (A.q k).r.c) (.slice (A.q k).t.a (A.q k).t.n (A.q k).t.c)), blkI br zeroML, blkI bm (machL A M)]) := HS
      generalize M1.doN k 9 ((j : Int) + 1) = M2 at HS eS
      have hj5 := hj.out
      by_cases ht : (j : Int) + 1 = ((A.q k).t.n : Int)
      · have htb : ((j : Int) + 1 == ((A.q k).t.n : Int)) = true := by rw [ht]; exact beq_self_eq_true _
        rw [decide_eq_true ht] at eS
        replace ht := hide ht
        go_wp2_with (first | ((with_reducible refine isList ?_); first | (refine st_load1 HS 4 rfl _ _ rfl _ rfl rfl (by decide +kernel) rfl ?_) | (refine st_load1 HS 0 rfl _ _ rfl _ rfl rfl (by decide +kernel) rfl ?_) | (refine st_storeN HS 1 rfl hk1 hbs1 3 (by decide) _ _ _ rfl _ rfl (show _ = k * 17 + 4 from by with_reducible rfl) rfl rfl (by decide +kernel) ?_; clear HS; intro W HS) | (refine st_loadA HS 0 rfl _ _ rfl rfl rfl (by decide +kernel) (by kernel_rfl) ?_) | (refine st_storeA HS 5 rfl _ _ _ rfl rfl rfl _ rfl rfl (by kernel_rfl) rfl ?_; clear HS; intro W HS)))
        rw [eS.out]
        exact bodyPost_ret (ret_mach2 Tryz.results64 (HS.out.blk 5 rfl) rfl rfl rfl) rfl (mret_of (R := (M2.doN k 3 2, 0)) HS.out 1 (D := D1) (A := A1) rfl)
      · have htb : ((j : Int) + 1 == ((A.q k).t.n : Int)) = false := by simpa using ht
        rw [decide_eq_false ht] at eS
        replace ht := hide ht
        go_wp2_with (first | ((with_reducible refine isList ?_); first | (refine st_load1 HS 4 rfl _ _ rfl _ rfl rfl (by decide +kernel) rfl ?_) | (refine st_loadA HS 0 rfl _ _ rfl rfl rfl (by decide +kernel) (by kernel_rfl) ?_) | (refine st_storeA HS 5 rfl _ _ _ rfl rfl rfl _ rfl rfl (by kernel_rfl) rfl ?_; clear HS; intro W HS)))
        rw [eS.out]
        exact bodyPost_ret (ret_mach2 Tryz.results64 (HS.out.blk 5 rfl) rfl rfl rfl) rfl (mret_of (R := (M2, 0)) HS.out 1 (D := D1) (A := A1) rfl)
    · have heb : (E0 != 0) = true := by simpa using he
      rw [decide_eq_false he] at eS
      replace he := hide he
      go_wp2_with (first | ((with_reducible refine isList ?_); first | (refine st_loadA HS 4 rfl _ _ rfl rfl rfl (by decide +kernel) (by kernel_rfl) ?_)))
      refine (hAgain.out _ _ _ HS.out.below).mono ?_
      (rintro e W2 ⟨A2, rfl, hO, hb⟩; have HS2 := hide (HS.out.push hb (machI (fun k => _) A2 _) (machI_loc _ _ _) hO fun k hk => hk); generalize (fun k => _) = D2 at HS2; clear hO HS hb; replace HS := HS2; clear HS2; go_wp2_with (first | ((with_reducible refine isList ?_); first | (refine st_storeA HS 4 rfl _ _ _ rfl rfl rfl _ rfl rfl (by kernel_rfl) rfl ?_; clear HS; intro W HS))); rw [eS.out]; exact bodyPost_ret (ret_mach2 Tryz.results64 (HS.out.blk 4 rfl) rfl rfl rfl) rfl (mret_of (R := againP M k 3) HS.out 0 (D := D2) (A := A2) rfl))
end Go.Proofs.YtnjognmnbpcaaaaGreat
