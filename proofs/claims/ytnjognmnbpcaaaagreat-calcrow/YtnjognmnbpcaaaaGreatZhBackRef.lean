/-
  The document's Back.
-/
import Derived.Test.YtnjognmnbpcaaaaGreatZhGrabRef
import Derived.Test.YtnjognmnbpcaaaaGreatZlah
import Derived.Test.YtnjognmnbpcaaaaGreatZlab
namespace Go.Proofs.YtnjognmnbpcaaaaGreat
open Go.RowKit
set_option linter.unusedSimpArgs false
set_option linter.unusedVariables false
theorem amay_word {s : Nat → Sl} {z : Nat → Nat → Int} (h : amay s z = true) {g i : Nat} (hg : g < 4) (hi : i < (s g).n) : wmay (z g (i * 3)) (z g (i * 3 + 1)) (z g (i * 3 + 2)) = true := by
  have := lvTo_get h g hg
  unfold lvMay at this
  simp only [Bool.and_eq_true] at this
  exact wordsTo_get this.2 i hi
def backP (M : PMach) (i : Int) : PMach × Int :=
  bif leftP M i 4 then
    bif decide ((M.at i.toNat).at_ + 1 = ((M.at i.toNat).tn : Int)) then endP ((M.doW ((M.at i.toNat).wl 0).toNat ((M.at i.toNat).wl 1).toNat ((M.at i.toNat).wl 2) (lz (M.at i.toNat).num 10) 0).doN i.toNat 9 ((M.at i.toNat).at_ + 1)) i 1 0
    else ((M.doW ((M.at i.toNat).wl 0).toNat ((M.at i.toNat).wl 1).toNat ((M.at i.toNat).wl 2) (lz (M.at i.toNat).num 10) 0).doN i.toNat 9 ((M.at i.toNat).at_ + 1), 0)
  else (noMach, 2100)
set_option maxRecDepth 100000 in
set_option maxHeartbeats 4000000 in
theorem rback_any (A : MacM) (M : PMach) (i : Int) (w : World) (h : MachIs w A M) :
    Calls Tryz.prog 67 #[machA A M, .int .i64 i] w (MRet w (backP M i)) := by
  have hX := hide h.sess.1
  have hHere := hide fun (i : Int) (W : World) (hb : Below w.heap.size w W) => rhere_any A M i W (h.below hb)
  have hRun := hide fun (k : Nat) (hk : k < A.s.n) (hp : 0 ≤ (M.at k).pc) (W : World) (hb : Below w.heap.size w W) => rrunning_any A M k W (h.below hb) hk hp
  have hNeeds := hide fun (i : Int) (W : World) (hb : Below w.heap.size w W) => rneeds_any A M i W (h.below hb)
  have hAgain := hide fun (i c : Int) (W : World) (hb : Below w.heap.size w W) => ragain_any A M i c W (h.below hb)
  have hEnd := hide fun (i a b : Int) (W : World) (hb : Below w.heap.size w W) => rend_any A M i a b W (h.below hb)
  have hCopy := hide fun (W : World) (hb : Below w.heap.size w W) => rcopyMach_any A M W (h.below hb)
  have hrng := hide fun (k : Nat) (hk : k < A.s.n) (W : World) (hb : Below w.heap.size w W) => (h.below hb).sess.range hk
  have hSes : Hid (∀ (k : Nat) (hk : k < A.s.n) (W : World) (hb : Below w.heap.size w W), SessIs W (A.q k) (M.at k)) := fun k hk W hb => (h.below hb).sess.2.2.2 k hk
  have hIns := hide fun (k : Nat) (hk : k < A.s.n) (hok : SessOk M.lens (M.at k)) (c : Int) (hr : runP (M.at k) = c) (hc : c ≠ -1) => ins_at h hk hok hr hc
  have hLeft := hide fun (W : World) (hb : Below w.heap.size w W) => rleft_any A M i 4 W (h.below hb)
  obtain ⟨V0, hV0⟩ : ∃ V0, V0 = machA A M := ⟨_, rfl⟩
  rw [← hV0]
  have HV : Hid (V0.cells = (machL A M).toArray) := by rw [hV0]; rfl
  clear hV0
  have HM := hide h
  have HS := hide (St.refl w)
  clear h
  go_enter Tryz.func67, Tryz.ntmps67
  go_wp2_with (first | ((with_reducible refine isList ?_); first | (refine st_box HS _ _ rfl rfl (machL A M) HV.out ?_; clear HS; intro W bm HS) | (refine st_alloc HS _ rfl rfl zeroML zeroM ?_; clear HS; intro W br HS) | (refine st_loadA HS 1 rfl _ _ rfl rfl rfl (by decide +kernel) (by kernel_rfl) ?_)))
  refine (hLeft.out _ HS.out.below).mono ?_
  rintro e W1 ⟨rfl, hb⟩
  replace HS := hide (HS.out.on hb)
  clear hb hLeft
  cases hl0 : leftP M i 4
  case false =>
    go_wp2_with (first | ((with_reducible refine isList ?_); first | (refine st_storeA HS 0 rfl _ _ _ rfl rfl rfl _ rfl rfl (by kernel_rfl) rfl ?_; clear HS; intro W HS)))
    rw [show backP M i = (noMach, 2100) by unfold backP; rw [hl0]; rfl]
    exact bodyPost_ret (ret_mach2 Tryz.results67 (HS.out.blk 0 rfl) rfl rfl rfl) rfl (mret_no HS.out.below)
  obtain ⟨hh, hst, hlt⟩ := leftP_yes hl0
  obtain ⟨hmay, k, rfl, hk0⟩ := hereP_yes hh
  rw [Int.toNat_natCast] at hst hlt
  have hk : k < A.s.n := by have := hX.out; omega
  have hok := here_sess hmay hk0
  have i2 : (k : Int) < (A.s.n : Int) := by omega
  obtain ⟨j, g, ix, hj, hjt, ⟨w0, z0⟩, ⟨w1, z1⟩, w2, hg, hix⟩ := hok.next hlt
  obtain ⟨_, hsP, hsR, hsT⟩ := hSes.out k hk _ HS.out.below
  have eT : (M.at k).tn = (A.q k).t.n := hsT.len (by decide)
  have hjn : j < (A.q k).t.n := by omega
  have hj16 : j < 16 := by have := (writesMay_get hok.writes).few; omega
  have hixn : ix < (A.w g).n := by rw [(HM.out.below HS.out.below).lens g hg]; exact hix
  obtain ⟨v, hv⟩ : ∃ v, v = M.wz g (ix * 3) := ⟨_, rfl⟩
  obtain ⟨n, hn⟩ : ∃ n, n = M.wz g (ix * 3 + 1) := ⟨_, rfl⟩
  obtain ⟨l, hl⟩ : ∃ l, l = M.wz g (ix * 3 + 2) := ⟨_, rfl⟩
  obtain ⟨pv, hpv⟩ : ∃ pv, pv = (M.at k).wl 2 := ⟨_, rfl⟩
  obtain ⟨id, hid⟩ : ∃ id, id = lz (M.at k).num 0 := ⟨_, rfl⟩
  obtain ⟨sp, hsp⟩ : ∃ sp, sp = lz (M.at k).num 10 := ⟨_, rfl⟩
  have hwm : writeW v n l pv sp = wordA pv sp 0 := by
    unfold writeW
    rw [show wmay v n l = true by rw [hv, hn, hl]; exact amay_word (machMay_parts hmay).1 hg hix, show wmay pv sp 0 = true from ?_]
    · rfl
    · have h1 := (writesMay_get hok.writes).alone j hjt
      have h2 := hok.stamp
      rw [hpv, w2, hsp]
      exact wmay_of (upToV_of h1.2.2.1 h1.2.2.2) (upToV_of h2.1 h2.2) (by decide)
  have eS : Hid (backP M k = bif decide ((j : Int) + 1 = ((A.q k).t.n : Int)) then endP ((M.doW g ix pv sp 0).doN k 9 ((j : Int) + 1)) k 1 0 else ((M.doW g ix pv sp 0).doN k 9 ((j : Int) + 1), 0)) := by
    show backP M k = _
    unfold backP
    rw [hl0, Int.toNat_natCast, w0, w1, Int.toNat_natCast, Int.toNat_natCast, eT, ← hpv, ← hsp, show (M.at k).at_ = j from hj]; rfl
  have hcw : Hid (∀ W', Below w.heap.size w W' → ∃ bw ow, (A.w g).a = some ⟨bw, ow, none⟩ ∧ W'.rangeAt bw (ow + ix * 3) [.int .i64 v, .int .i64 n, .int .i64 l]) := fun W' hb => by
    obtain ⟨bw, ow, e1, _, e3⟩ := ((HM.out.below hb).words g hg).three hixn
    rw [hv, hn, hl]
    exact ⟨bw, ow, e1, e3⟩
  obtain ⟨bw, ow, hbw, _⟩ := hcw.out _ HS.out.below
  have hcw2 : Hid (∀ W', Below w.heap.size w W' → W'.rangeAt bw (ow + ix * 3) [.int .i64 v, .int .i64 n, .int .i64 l]) := fun W' hb => by
    obtain ⟨bw', ow', e1, e3⟩ := hcw.out W' hb
    rw [hbw] at e1; cases e1
    exact e3
  have hsx : Hid (∀ W' (b : Nat), Blk W' b (sessL (lz (M.at k).num) (.slice (A.q k).p.a (A.q k).p.n (A.q k).p.c) (.slice (A.q k).r.a (A.q k).r.n (A.q k).r.c) (.slice (A.q k).t.a (A.q k).t.n (A.q k).t.c)) → W'.cell? ⟨b, 0, none⟩ = some (.int .i64 id)) := fun W' b h => by rw [hid]; exact h.cell 0 _ rfl
  have hsy : Hid (∀ W' (b : Nat), Blk W' b (sessL (lz (M.at k).num) (.slice (A.q k).p.a (A.q k).p.n (A.q k).p.c) (.slice (A.q k).r.a (A.q k).r.n (A.q k).r.c) (.slice (A.q k).t.a (A.q k).t.n (A.q k).t.c)) → W'.cell? ⟨b, 13, none⟩ = some (.int .i64 sp)) := fun W' b h => by rw [hsp]; exact h.cell 13 _ rfl
  have hzw : Hid ([Value.int .i64 (lz (M.at k).writes (j * 3)), .int .i64 (lz (M.at k).writes (j * 3 + 1)), .int .i64 (lz (M.at k).writes (j * 3 + 2))] = [.int .i64 (g : Int), .int .i64 (ix : Int), .int .i64 pv]) := by
    show _ = _
    rw [z0, z1, ← w2, ← hpv]
  replace hj := hide hj
  have i1 : (j : Int) < ((A.q k).t.n : Int) := by omega
  have i5 : (g : Int) < 4 := by omega
  have i6 : (ix : Int) < ((A.w g).n : Int) := by omega
  replace hmay := hide hmay
  replace hok := hide hok
  clear hh hst hlt hsP hsR hsT eT hjt w0 w1 w2 z0 z1 hv hn hl hpv hid hl0 hcw hRun hNeeds hIns
  clear hsp
  go_upto_region 3 with fail
  obtain ⟨bs, off, hbs, hbl, hR⟩ := hrng.out k hk _ HS.out.below
  replace hR := hide hR
  go_upto_region 4 with (first | ((with_reducible refine isList ?_); first | (refine st_load1 HS 1 rfl _ _ rfl _ rfl rfl (by decide +kernel) rfl ?_) | (refine wpList_load_at _ _ rfl rfl bs (off + k * 17) rfl (sessOf (A.q k) (M.at k)) (by decide +kernel) (by kernel_rfl) hR.out ?_) | (refine st_alloc HS _ rfl rfl zeroSL zeroS ?_; clear HS; intro W bx HS) | (refine st_storeA HS 0 rfl _ _ _ rfl rfl rfl _ rfl rfl (by kernel_rfl) rfl ?_; clear HS; intro W HS)))
  replace HS : Hid (St w W [blkI bx (sessL (lz (M.at k).num) (.slice (A.q k).p.a (A.q k).p.n (A.q k).p.c) (.slice (A.q k).r.a (A.q k).r.n (A.q k).r.c) (.slice (A.q k).t.a (A.q k).t.n (A.q k).t.c)), blkI br zeroML, blkI bm (machL A M)]) := HS
  clear hR hbs
  obtain ⟨bp, op, hbp, hpl, hR⟩ := (hSes.out k hk _ HS.out.below).2.2.2.three hjn
  rw [hzw.out] at hR
  replace hR := hide hR
  have hj5 := hj.out
  go_upto_region 5 with (first | ((with_reducible refine isList ?_); first | (refine st_load1 HS 0 rfl _ _ rfl _ rfl rfl (by decide +kernel) rfl ?_) | (refine wpList_load_at _ _ rfl rfl bp (op + j * 3) rfl [.int .i64 (g : Int), .int .i64 (ix : Int), .int .i64 pv] (by decide +kernel) (by kernel_rfl) hR.out ?_) | (refine st_alloc HS _ rfl rfl zeroTL zeroT ?_; clear HS; intro W bi HS) | (refine st_storeA HS 0 rfl _ _ _ rfl rfl rfl _ rfl rfl (by kernel_rfl) rfl ?_; clear HS; intro W HS)))
  replace HS : Hid (St w W [blkI bi [.int .i64 (g : Int), .int .i64 (ix : Int), .int .i64 pv], blkI bx (sessL (lz (M.at k).num) (.slice (A.q k).p.a (A.q k).p.n (A.q k).p.c) (.slice (A.q k).r.a (A.q k).r.n (A.q k).r.c) (.slice (A.q k).t.a (A.q k).t.n (A.q k).t.c)), blkI br zeroML, blkI bm (machL A M)]) := HS
  clear hR hbp hj5
  have HB0 := HS.out.blk 0 rfl
  have HB1 := HS.out.blk 1 rfl
  have HB3 := HS.out.blk 3 rfl
  (try simp only [Act.put, List.setIfInBounds_toArray, List.set_cons_zero, List.set_cons_succ])
  have hLock := hide fun (W : World) => rwrite_any v n l pv sp W
  rw [hwm] at hLock
  obtain ⟨E0, hE0⟩ : ∃ E0, E0 = writeE v n l pv sp := ⟨_, rfl⟩
  rw [← hE0] at hLock
  obtain ⟨x0, hx0⟩ : ∃ x, x = pv := ⟨_, rfl⟩
  obtain ⟨x1, hx1⟩ : ∃ x, x = sp := ⟨_, rfl⟩
  obtain ⟨x2, hx2⟩ : ∃ x : Int, x = 0 := ⟨_, rfl⟩
  rw [← hx0] at eS
  rw [← hx1] at eS
  rw [show wordA pv sp 0 = wordA x0 x1 x2 by rw [hx0, hx1, hx2]] at hLock
  have eS : Hid (backP M k = bif decide ((j : Int) + 1 = ((A.q k).t.n : Int)) then endP ((M.doW g ix x0 x1 x2).doN k 9 ((j : Int) + 1)) k 1 0 else ((M.doW g ix x0 x1 x2).doN k 9 ((j : Int) + 1), 0)) := by
    rw [hx2]; exact eS
  clear hx0 hx1 hx2 hwm hE0
  refine wp_region_fork [true, true, true, true, true, true, true, true, true, true, true, true, true, false, false, false, false, false, false, false] 13 [14, 15, 16, 17, 18, 19] [3, 3, 3, 0, 1, 2] 17 [13, 14, 15, 16, 18, 19] [0, 3, 3, 3, 1, 2] (fun w' => Blk w' bi [.int .i64 (g : Int), .int .i64 (ix : Int), .int .i64 pv] ∧ Blk w' bx (sessL (lz (M.at k).num) (.slice (A.q k).p.a (A.q k).p.n (A.q k).p.c) (.slice (A.q k).r.a (A.q k).r.n (A.q k).r.c) (.slice (A.q k).t.a (A.q k).t.n (A.q k).t.c)) ∧ Blk w' bm (machL A M) ∧ w'.rangeAt bw (ow + ix * 3) [.int .i64 v, .int .i64 n, .int .i64 l]) (by kernel_rfl) (by kernel_rfl) (by kernel_rfl) (by decide +kernel) ⟨HB0.drew, HB1.drew, HB3.drew, hcw2.out _ HS.out.drew.below⟩ ?_
  intro kne
  simp only [pickAt]
  repeat (first | ((first | (refine wpQuiet_ld _ _ rfl ⟨bi, 0, none⟩ rfl rfl (by decide +kernel) (fun w hC => hC.1.cell 0 _ rfl) ?_) | (refine wpQuiet_ld _ _ rfl ⟨bi, 1, none⟩ rfl rfl (by decide +kernel) (fun w hC => hC.1.cell 1 _ rfl) ?_) | (refine wpQuiet_ld _ _ rfl ⟨bi, 2, none⟩ rfl rfl (by decide +kernel) (fun w hC => hC.1.cell 2 _ rfl) ?_) | (refine wpQuiet_ld _ _ rfl ⟨bm, g, none⟩ rfl rfl (by decide +kernel) (fun w hC => hC.2.2.1.cell g _ (machL_lv hg)) ?_) | (refine wpQuiet_la _ _ rfl bw (ow + ix * 3) rfl rfl (by decide +kernel) [.int .i64 v, .int .i64 n, .int .i64 l] (by kernel_rfl) (fun w hC => hC.2.2.2) ?_) | (refine wpQuiet_ld _ _ rfl ⟨bx, 0, none⟩ rfl rfl (by decide +kernel) (fun w hC => hsx.out _ _ hC.2.1) ?_) | (refine wpQuiet_ld _ _ rfl ⟨bx, 13, none⟩ rfl rfl (by decide +kernel) (fun w hC => hsy.out _ _ hC.2.1) ?_)); simp only [Act.put, List.setIfInBounds_toArray, List.set_cons_zero, List.set_cons_succ]) | go_big_quiet_step (fail))
  refine wpQuiet_nil ?_
  clear kne HB0 HB1 HB3
  replace HS := hide HS.out.drew
  generalize W.drew = Wd at *
  simp only [pickIx, List.getElem?_cons_zero, List.getElem?_cons_succ]
  clear hbw
  refine ⟨?_, ?_⟩
  case' refine_1 =>
    refine wpRest_cons rfl rfl fun K hK => ?_
    go_big_op
    refine (hLock.out _).mono ?_
    rintro e W3 ⟨rfl, hb⟩
    replace HS := hide (HS.out.on hb)
    clear hb
    refine hK _ _ (fun _ => InC.mk ⟨HS.out.blk 0 rfl, HS.out.blk 1 rfl, HS.out.blk 3 rfl, hcw2.out _ HS.out.below⟩) ?_
    clear hK K
    (try simp only [Act.put, List.setIfInBounds_toArray, List.set_cons_zero, List.set_cons_succ])
    refine wpRest_move _ rfl rfl rfl ?_
    (try simp only [Act.put, List.setIfInBounds_toArray, List.set_cons_zero, List.set_cons_succ])
    refine wpRest_extract _ 0 rfl rfl rfl rfl ?_
    (try simp only [Act.put, List.setIfInBounds_toArray, List.set_cons_zero, List.set_cons_succ])
    refine wpRest_extract _ 1 rfl rfl rfl rfl ?_
    (try simp only [Act.put, List.setIfInBounds_toArray, List.set_cons_zero, List.set_cons_succ])
    refine wpRest_cons rfl rfl fun K hK => ?_
    refine stw_alloc HS _ rfl zeroWL zeroW ?_
    clear HS
    intro W4 b8 HS
    refine hK _ _ (fun _ => InC.mk ⟨HS.out.blk 1 rfl, HS.out.blk 2 rfl, HS.out.blk 4 rfl, hcw2.out _ HS.out.below⟩) ?_
    clear hK K
    (try simp only [Act.put, List.setIfInBounds_toArray, List.set_cons_zero, List.set_cons_succ])
  case' refine_2 =>
    refine wpRest_cons rfl rfl fun K hK => ?_
    refine stw_alloc HS _ rfl zeroWL zeroW ?_
    clear HS
    intro W4 b8 HS
    refine hK _ _ (fun _ => InC.mk ⟨HS.out.blk 1 rfl, HS.out.blk 2 rfl, HS.out.blk 4 rfl, hcw2.out _ HS.out.below⟩) ?_
    clear hK K
    (try simp only [Act.put, List.setIfInBounds_toArray, List.set_cons_zero, List.set_cons_succ])
    refine wpRest_cons rfl rfl fun K hK => ?_
    go_big_op
    refine (hLock.out _).mono ?_
    rintro e W3 ⟨rfl, hb⟩
    replace HS := hide (HS.out.on hb)
    clear hb
    refine hK _ _ (fun _ => InC.mk ⟨HS.out.blk 1 rfl, HS.out.blk 2 rfl, HS.out.blk 4 rfl, hcw2.out _ HS.out.below⟩) ?_
    clear hK K
    (try simp only [Act.put, List.setIfInBounds_toArray, List.set_cons_zero, List.set_cons_succ])
    refine wpRest_move _ rfl rfl rfl ?_
    (try simp only [Act.put, List.setIfInBounds_toArray, List.set_cons_zero, List.set_cons_succ])
    refine wpRest_extract _ 0 rfl rfl rfl rfl ?_
    (try simp only [Act.put, List.setIfInBounds_toArray, List.set_cons_zero, List.set_cons_succ])
    refine wpRest_extract _ 1 rfl rfl rfl rfl ?_
    (try simp only [Act.put, List.setIfInBounds_toArray, List.set_cons_zero, List.set_cons_succ])
  all_goals
    refine wpRest_cons rfl rfl fun K hK => ?_
    refine stw_storeA HS 0 rfl _ _ _ rfl rfl [.int .i64 x0, .int .i64 x1, .int .i64 x2] rfl rfl (by kernel_rfl) rfl ?_
    clear HS
    intro W5 HS
    refine hK _ _ (fun h => by cases h) ?_
    clear hK K
    (try simp only [Act.put, List.setIfInBounds_toArray, List.set_cons_zero, List.set_cons_succ])
    refine wpRest_assign _ rfl rfl rfl (wpRest_nil ?_)
    (try simp only [Act.put, List.setIfInBounds_toArray, List.set_cons_zero, List.set_cons_succ])
    refine NoPanic.normal ?_
    replace HS : Hid (St w W5 [blkI b8 [.int .i64 x0, .int .i64 x1, .int .i64 x2], blkI bi [.int .i64 (g : Int), .int .i64 (ix : Int), .int .i64 pv], blkI bx (sessL (lz (M.at k).num) (.slice (A.q k).p.a (A.q k).p.n (A.q k).p.c) (.slice (A.q k).r.a (A.q k).r.n (A.q k).r.c) (.slice (A.q k).t.a (A.q k).t.n (A.q k).t.c)), blkI br zeroML, blkI bm (machL A M)]) := HS
    go_wp2_with (first | ((with_reducible refine isList ?_); first | (refine st_loadA HS 4 rfl _ _ rfl rfl rfl (by decide +kernel) (by kernel_rfl) ?_)))
    refine (hCopy.out _ HS.out.below).mono ?_
    rintro e W2 ⟨A1, rfl, hO, hb⟩
    have HS1 := hide (HS.out.push hb (machI (fun k => _) A1 M) (machI_loc _ _ _) hO fun k hk => hk)
    generalize (fun k => _) = D1 at HS1
    have hk1 : k < A1.s.n := by have := hO.is.sess.1; have := hX.out; omega
    have i4 : (k : Int) < (A1.s.n : Int) := by omega
    have hlw : ix < (A1.w g).n := by
      have := (hO.is.lens g hg).trans ((HM.out.below (HS.out.below)).lens g hg).symm
      omega
    have i7 : (ix : Int) < ((A1.w g).n : Int) := by omega
    obtain ⟨bs1, hbs1, _⟩ := MachOwn.sblk hO hk1
    obtain ⟨bw1, hbw1, _⟩ := MachOwn.wblk hO hg (by omega)
    clear HS hb hO hCopy
    replace HS := HS1
    clear HS1
    replace hbs1 := hide hbs1
    replace hbw1 := hide hbw1
    go_upto_region 7 with (first | ((with_reducible refine isList ?_); first | (refine st_alloc HS _ rfl rfl zeroML zeroM ?_; clear HS; intro W bo HS) | (refine st_storeA HS 0 rfl _ _ _ rfl rfl rfl _ rfl rfl (by kernel_rfl) rfl ?_; clear HS; intro W HS)))
    replace HS : Hid (St w W [blkI bo (machL A1 M), machI D1 A1 M, blkI b8 [.int .i64 x0, .int .i64 x1, .int .i64 x2], blkI bi [.int .i64 (g : Int), .int .i64 (ix : Int), .int .i64 pv], blkI bx (sessL (lz (M.at k).num) (.slice (A.q k).p.a (A.q k).p.n (A.q k).p.c) (.slice (A.q k).r.a (A.q k).r.n (A.q k).r.c) (.slice (A.q k).t.a (A.q k).t.n (A.q k).t.c)), blkI br zeroML, blkI bm (machL A M)]) := HS
    have HB0 := HS.out.blk 0 rfl
    have HB2 := HS.out.blk 2 rfl
    have HB3 := HS.out.blk 3 rfl
    have hbw2 := hbw1.out
    (try simp only [Act.put, List.setIfInBounds_toArray, List.set_cons_zero, List.set_cons_succ])
    refine wp_region_mask [true, true, true, true, true, true, true, true, true, false] [false, false, false, false, false, false, false, false, false, true] [1] (fun w' => Blk w' bo (machL A1 M) ∧ Blk w' b8 [.int .i64 x0, .int .i64 x1, .int .i64 x2] ∧ Blk w' bi [.int .i64 (g : Int), .int .i64 (ix : Int), .int .i64 pv]) (by kernel_rfl) (by kernel_rfl) (by kernel_rfl) (by decide +kernel) ⟨HB0.drew, HB2.drew, HB3.drew⟩ ?_
    intro kne
    simp only [pickAt]
    repeat (first | ((first | (refine wpQuiet_ld _ _ rfl ⟨bi, 0, none⟩ rfl rfl (by decide +kernel) (fun w hC => hC.2.2.cell 0 _ rfl) ?_) | (refine wpQuiet_ld _ _ rfl ⟨bi, 1, none⟩ rfl rfl (by decide +kernel) (fun w hC => hC.2.2.cell 1 _ rfl) ?_) | (refine wpQuiet_ld _ _ rfl ⟨bo, g, none⟩ rfl rfl (by decide +kernel) (fun w hC => hC.1.cell g _ (machL_lv hg)) ?_) | (refine wpQuiet_la _ _ rfl b8 (0) rfl rfl (by decide +kernel) [.int .i64 x0, .int .i64 x1, .int .i64 x2] (by kernel_rfl) (fun w hC => hC.2.1.range) ?_)); simp only [Act.put, List.setIfInBounds_toArray, List.set_cons_zero, List.set_cons_succ]) | go_big_quiet_step (fail))
    refine wpQuiet_nil ?_
    clear kne HB0 HB2 HB3
    replace HS := hide HS.out.drew
    generalize W.drew = Wd1 at *
    refine wpRest_cons rfl rfl fun K hK => ?_
    refine stw_storeWW HS 1 rfl hg hlw hbw2 _ _ _ rfl _ rfl rfl (v := x0) (n := x1) (l := x2) rfl (by decide +kernel) ?_
    clear HS
    intro W6 HS
    refine hK _ _ (fun h => by cases h) (wpRest_nil ?_)
    clear hK K hbw2
    (try simp only [Act.put, List.setIfInBounds_toArray, List.set_cons_zero, List.set_cons_succ])
    refine NoPanic.normal ?_
    replace HS : Hid (St w W6 [blkI bo (machL A1 (M.doW g ix x0 x1 x2)), machI D1 A1 (M.doW g ix x0 x1 x2), blkI b8 [.int .i64 x0, .int .i64 x1, .int .i64 x2], blkI bi [.int .i64 (g : Int), .int .i64 (ix : Int), .int .i64 pv], blkI bx (sessL (lz (M.at k).num) (.slice (A.q k).p.a (A.q k).p.n (A.q k).p.c) (.slice (A.q k).r.a (A.q k).r.n (A.q k).r.c) (.slice (A.q k).t.a (A.q k).t.n (A.q k).t.c)), blkI br zeroML, blkI bm (machL A M)]) := HS
    have hj1 : lz ((M.doW g ix x0 x1 x2).at k).num 9 = j := hj.out
    generalize M.doW g ix x0 x1 x2 = M1 at HS eS hj1
    replace hbs1 := hbs1.out
    go_upto_region 9 with (first | ((with_reducible refine isList ?_); first | (refine st_load1 HS 0 rfl _ _ rfl _ rfl rfl (by decide +kernel) rfl ?_) | (refine st_loadS (MachOwn.is (HS.out.get 1 (x := machI D1 A1 M1) rfl)) hk1 hbs1 12 (by decide) rfl _ _ rfl _ rfl (by rw [Nat.zero_add] <;> rfl) rfl (by decide +kernel) ?_) | (refine st_storeN HS 1 rfl hk1 hbs1 9 (by decide) _ _ _ rfl _ rfl (show _ = k * 17 + 12 from by with_reducible rfl) rfl rfl (by decide +kernel) ?_; clear HS; intro W HS)))
    replace HS : Hid (St w W [blkI bo (machL A1 (M1.doN k 9 ((j : Int) + 1))), machI D1 A1 (M1.doN k 9 ((j : Int) + 1)), blkI b8 [.int .i64 x0, .int .i64 x1, .int .i64 x2], blkI bi [.int .i64 (g : Int), .int .i64 (ix : Int), .int .i64 pv], blkI bx (sessL (lz (M.at k).num) (.slice (A.q k).p.a (A.q k).p.n (A.q k).p.c) (.slice (A.q k).r.a (A.q k).r.n (A.q k).r.c) (.slice (A.q k).t.a (A.q k).t.n (A.q k).t.c)), blkI br zeroML, blkI bm (machL A M)]) := HS
    generalize M1.doN k 9 ((j : Int) + 1) = M2 at HS eS
    have hj5 := hj.out
    by_cases ht : (j : Int) + 1 = ((A.q k).t.n : Int)
    · have htb : ((j : Int) + 1 == ((A.q k).t.n : Int)) = true := by rw [ht]; exact beq_self_eq_true _
      rw [decide_eq_true ht] at eS
      replace ht := hide ht
      go_wp2_with (first | ((with_reducible refine isList ?_); first | (refine st_load1 HS 4 rfl _ _ rfl _ rfl rfl (by decide +kernel) rfl ?_) | (refine st_loadA HS 0 rfl _ _ rfl rfl rfl (by decide +kernel) (by kernel_rfl) ?_)))
      refine (rend_any A1 M2 k 1 0 _ (MachOwn.is (HS.out.get 1 (x := machI D1 A1 M2) rfl))).mono ?_
      (rintro e W2 ⟨A2, rfl, hO, hb⟩; have HS2 := hide (HS.out.push hb (machI (fun k => _) A2 _) (machI_loc _ _ _) hO fun k hk => hk); generalize (fun k => _) = D2 at HS2; clear hO HS hb; replace HS := HS2; clear HS2; go_wp2_with (first | ((with_reducible refine isList ?_); first | (refine st_storeA HS 6 rfl _ _ _ rfl rfl rfl _ rfl rfl (by kernel_rfl) rfl ?_; clear HS; intro W HS))); rw [eS.out]; exact bodyPost_ret (ret_mach2 Tryz.results67 (HS.out.blk 6 rfl) rfl rfl rfl) rfl (mret_of (R := endP M2 k 1 0) HS.out 0 (D := D2) (A := A2) rfl))
    · have htb : ((j : Int) + 1 == ((A.q k).t.n : Int)) = false := by simpa using ht
      rw [decide_eq_false ht] at eS
      replace ht := hide ht
      go_wp2_with (first | ((with_reducible refine isList ?_); first | (refine st_load1 HS 4 rfl _ _ rfl _ rfl rfl (by decide +kernel) rfl ?_) | (refine st_loadA HS 0 rfl _ _ rfl rfl rfl (by decide +kernel) (by kernel_rfl) ?_) | (refine st_storeA HS 5 rfl _ _ _ rfl rfl rfl _ rfl rfl (by kernel_rfl) rfl ?_; clear HS; intro W HS)))
      rw [eS.out]
      exact bodyPost_ret (ret_mach2 Tryz.results67 (HS.out.blk 5 rfl) rfl rfl rfl) rfl (mret_of (R := (M2, 0)) HS.out 1 (D := D1) (A := A1) rfl)
end Go.Proofs.YtnjognmnbpcaaaaGreat
