/-
  The document's Store.
-/
import Derived.Test.YtnjognmnbpcaaaaGreatZlah
import Derived.Test.YtnjognmnbpcaaaaGreatZhWithWRef2
namespace Go.Proofs.YtnjognmnbpcaaaaGreat
open Go.RowKit
set_option linter.unusedSimpArgs false
set_option linter.unusedVariables false
/-- A register's value; the writes with one more. -/
def PSess.reg (x : PSess) (a : Nat) : Int := lz x.num (5 + a)
def PSess.withW (x : PSess) (l i v : Int) : List Int := (List.range (withWN x.tn (lz x.writes) l i v * 3)).map (withWZ x.tn (lz x.writes) l i v)
def storeP (M : PMach) (i : Int) : PMach × Int :=
  bif hereP M i && decide (runP (M.at i.toNat) = 3) then
    (tellP ((M.setS i.toNat ((M.at i.toNat).setL 2 ((M.at i.toNat).withW ((M.at i.toNat).ins 2) ((M.at i.toNat).ins 3) ((M.at i.toNat).reg ((M.at i.toNat).ins 1).toNat)))).doN i.toNat 4 ((M.at i.toNat).pc + 1)) i.toNat 1 ((M.at i.toNat).reg ((M.at i.toNat).ins 1).toNat), 0)
  else (noMach, 1600)
theorem SessOk.withW {s : Nat → Sl} {x : PSess} (h : SessOk s x) {l i v : Int} (hl : 0 ≤ l ∧ l ≤ 3) (hi : 0 ≤ i ∧ i ≤ 3) (hv : 0 ≤ v ∧ v ≤ 255) : withWOk x.tn (lz x.writes) l i v = true := withWOk_mk h.writes (writeMay_of ⟨hl, hi, hv.1, hv.2⟩)
theorem withWN_le {n : Nat} {z : Nat → Int} {l i v : Int} (h : writesMay n z = true) : withWN n z l i v ≤ 17 := by
  have h1 := (writesMay_get h).few
  have h2 := posW_le n z l i
  unfold withWN toW
  cases withWOk n z l i v
  · exact Nat.zero_le _
  · cases hasW n z l i
    · show posW n z l i + 1 + (n - posW n z l i) ≤ 17; omega
    · show posW n z l i + 1 + (n - (posW n z l i + 1)) ≤ 17; omega
set_option maxRecDepth 100000 in
set_option maxHeartbeats 2000000 in
theorem rstore_any (A : MacM) (M : PMach) (i : Int) (w : World) (h : MachIs w A M) :
    Calls Tryz.prog 85 #[machA A M, .int .i64 i] w (MRet w (storeP M i)) := by
  have hX := hide h.sess.1
  have hHere := hide fun (W : World) (hb : Below w.heap.size w W) => rhere_any A M i W (h.below hb)
  have hRun := hide fun (k : Nat) (hk : k < A.s.n) (hp : 0 ≤ (M.at k).pc) (W : World) (hb : Below w.heap.size w W) => rrunning_any A M k W (h.below hb) hk hp
  have hCopy := hide fun (W : World) (hb : Below w.heap.size w W) => rcopyMach_any A M W (h.below hb)
  have hrng := hide fun (k : Nat) (hk : k < A.s.n) (W : World) (hb : Below w.heap.size w W) => (h.below hb).sess.range hk
  have hSes : Hid (∀ (k : Nat) (hk : k < A.s.n) (W : World) (hb : Below w.heap.size w W), SessIs W (A.q k) (M.at k)) := fun k hk W hb => (h.below hb).sess.2.2.2 k hk
  have hIns := hide fun (k : Nat) (hk : k < A.s.n) (hok : SessOk M.lens (M.at k)) (c : Int) (hr : runP (M.at k) = c) (hc : c ≠ -1) => ins_at h hk hok hr hc
  obtain ⟨V0, hV0⟩ : ∃ V0, V0 = machA A M := ⟨_, rfl⟩
  rw [← hV0]
  have HV : Hid (V0.cells = (machL A M).toArray) := by rw [hV0]; rfl
  clear hV0
  have HM := hide h
  have HS := hide (St.refl w)
  clear h
  go_enter Tryz.func85, Tryz.ntmps85
  go_wp2_with (first | ((with_reducible refine isList ?_); first | (refine st_box HS _ _ rfl rfl (machL A M) HV.out ?_; clear HS; intro W bm HS) | (refine st_alloc HS _ rfl rfl zeroML zeroM ?_; clear HS; intro W br HS) | (refine st_loadA HS 1 rfl _ _ rfl rfl rfl (by decide +kernel) (by kernel_rfl) ?_)))
  refine (hHere.out _ HS.out.below).mono ?_
  rintro e W1 ⟨rfl, hb⟩
  replace HS := hide (HS.out.on hb)
  clear hb hHere
  cases hh : hereP M i
  · go_wp2_with (first | ((with_reducible refine isList ?_); first | (refine st_storeA HS 0 rfl _ _ _ rfl rfl rfl _ rfl rfl (by kernel_rfl) rfl ?_; clear HS; intro W HS)))
    rw [show storeP M i = (noMach, 1600) by unfold storeP; rw [hh]; rfl]
    exact bodyPost_ret (ret_mach2 Tryz.results85 (HS.out.blk 0 rfl) rfl rfl rfl) rfl (mret_no HS.out.below)
  · obtain ⟨hmay, k, rfl, hk0⟩ := hereP_yes hh
    have hk : k < A.s.n := by have := hX.out; omega
    have hok := hide (here_sess hmay hk0)
    go_wp2_with (first | ((with_reducible refine isList ?_); first | (refine st_loadA HS 1 rfl _ _ rfl rfl rfl (by decide +kernel) (by kernel_rfl) ?_)))
    refine (hRun.out k hk hok.out.pc.1 _ HS.out.below).mono ?_
    rintro e W2 ⟨rfl, hb⟩
    replace HS := hide (HS.out.on hb)
    clear hb hRun
    by_cases hr : runP (M.at k) = 3
    · have hrb : (runP (M.at k) != 3) = false := by simpa using hr
      obtain ⟨p, hI⟩ := hIns.out k hk hok.out 3 hr (by decide)
      obtain ⟨a, b, c, ⟨ea, ha⟩, ⟨eb, hb⟩, ⟨ec, hc⟩⟩ := hI.word (.inr (hI.code hr (by decide)))
      have eS : Hid (storeP M k = (tellP ((M.setS k ((M.at k).setL 2 ((M.at k).withW b c ((M.at k).reg a)))).doN k 4 ((p : Int) + 1)) k 1 ((M.at k).reg a), 0)) := by
        show storeP M k = _
        unfold storeP; rw [hh, Int.toNat_natCast, decide_eq_true hr, hI.ins 1, hI.ins 2, hI.ins 3, ea, eb, ec, Int.toNat_natCast, show (M.at k).pc = p from hI.pc]; rfl
      have hv := hok.out.reg ha
      have hW := hide (hok.out.withW (l := b) (i := c) (v := lz (M.at k).num (5 + a)) (by omega) (by omega) hv)
      have hWn := hide (withWN_le (l := b) (i := c) (v := lz (M.at k).num (5 + a)) hok.out.writes)
      have hp := hide hI.pc
      have i1 : (p : Int) < ((A.q k).p.n : Int) := by have := hI.lt; omega
      have i2 : (k : Int) < (A.s.n : Int) := by omega
      have i3 : (a : Int) < 4 := by omega
      have hlt := hI.lt
      have hfew := hI.few
      replace ea := hide ea
      replace eb := hide eb
      replace ec := hide ec
      have HI := hide hI
      clear hr hh hmay hI hIns hv
      go_upto_region 3 with fail
      obtain ⟨bs, off, hbs, hbl, hR⟩ := hrng.out k hk _ HS.out.below
      replace hR := hide hR
      go_upto_region 4 with (first | ((with_reducible refine isList ?_); first | (refine st_load1 HS 1 rfl _ _ rfl _ rfl rfl (by decide +kernel) rfl ?_) | (refine wpList_load_at _ _ rfl rfl bs (off + k * 17) rfl (sessOf (A.q k) (M.at k)) (by decide +kernel) (by kernel_rfl) hR.out ?_) | (refine st_alloc HS _ rfl rfl zeroSL zeroS ?_; clear HS; intro W bx HS) | (refine st_storeA HS 0 rfl _ _ _ rfl rfl rfl _ rfl rfl (by kernel_rfl) rfl ?_; clear HS; intro W HS)))
      replace HS : Hid (St w W [blkI bx (sessL (lz (M.at k).num) (.slice (A.q k).p.a (A.q k).p.n (A.q k).p.c) (.slice (A.q k).r.a (A.q k).r.n (A.q k).r.c) (.slice (A.q k).t.a (A.q k).t.n (A.q k).t.c)), blkI br zeroML, blkI bm (machL A M)]) := HS
      clear hR hbs
      obtain ⟨bp, op, hbp, hpl, hR⟩ := (hSes.out k hk _ HS.out.below).2.1.four hlt
      rw [ea.out, eb.out, ec.out] at hR
      replace hR := hide hR
      have hp5 := hp.out
      go_upto_region 5 with (first | ((with_reducible refine isList ?_); first | (refine st_load1 HS 0 rfl _ _ rfl _ rfl rfl (by decide +kernel) rfl ?_) | (refine wpList_load_at _ _ rfl rfl bp (op + p * 4) rfl [.int .i64 (lz (M.at k).prog (p * 4)), .int .i64 a, .int .i64 b, .int .i64 c] (by decide +kernel) (by kernel_rfl) hR.out ?_) | (refine st_alloc HS _ rfl rfl zeroIL zeroI ?_; clear HS; intro W bi HS) | (refine st_storeA HS 0 rfl _ _ _ rfl rfl rfl _ rfl rfl (by kernel_rfl) rfl ?_; clear HS; intro W HS)))
      replace HS : Hid (St w W [blkI bi [.int .i64 (lz (M.at k).prog (p * 4)), .int .i64 a, .int .i64 b, .int .i64 c], blkI bx (sessL (lz (M.at k).num) (.slice (A.q k).p.a (A.q k).p.n (A.q k).p.c) (.slice (A.q k).r.a (A.q k).r.n (A.q k).r.c) (.slice (A.q k).t.a (A.q k).t.n (A.q k).t.c)), blkI br zeroML, blkI bm (machL A M)]) := HS
      clear hR hbp
      have HB0 := HS.out.blk 0 rfl
      have HB1 := HS.out.blk 1 rfl
      (try simp only [Act.put, List.setIfInBounds_toArray, List.set_cons_zero, List.set_cons_succ])
      refine wp_region_mask [true, true, true, true, true, true, true, true, true, true, true, true, false, false, false, false, false, false] [false, false, false, false, false, false, false, false, false, false, false, false, true, true, true, true, true, true] [0, 3, 3, 3, 2, 2] (fun w' => Blk w' bi [.int .i64 (lz (M.at k).prog (p * 4)), .int .i64 a, .int .i64 b, .int .i64 c] ∧ Blk w' bx (sessL (lz (M.at k).num) (.slice (A.q k).p.a (A.q k).p.n (A.q k).p.c) (.slice (A.q k).r.a (A.q k).r.n (A.q k).r.c) (.slice (A.q k).t.a (A.q k).t.n (A.q k).t.c))) (by kernel_rfl) (by kernel_rfl) (by kernel_rfl) (by decide +kernel) ⟨HB0.drew, HB1.drew⟩ ?_
      intro kne
      simp only [pickAt]
      repeat (first | ((first | (refine wpQuiet_ld _ _ rfl ⟨bx, 11, none⟩ rfl rfl (by decide +kernel) (fun w hC => hC.2.cell 11 _ rfl) ?_) | (refine wpQuiet_ld _ _ rfl ⟨bi, 2, none⟩ rfl rfl (by decide +kernel) (fun w hC => hC.1.cell 2 _ rfl) ?_) | (refine wpQuiet_ld _ _ rfl ⟨bi, 3, none⟩ rfl rfl (by decide +kernel) (fun w hC => hC.1.cell 3 _ rfl) ?_) | (refine wpQuiet_ld _ _ rfl ⟨bi, 1, none⟩ rfl rfl (by decide +kernel) (fun w hC => hC.1.cell 1 _ rfl) ?_) | (refine wpQuiet_ld _ _ rfl ⟨bx, 6 + a, none⟩ rfl rfl (by decide +kernel) (fun w hC => hC.2.cell (6 + a) _ (sessL_reg ha)) ?_)); simp only [Act.put, List.setIfInBounds_toArray, List.set_cons_zero, List.set_cons_succ]) | go_big_quiet_step (fail))
      refine wpQuiet_nil ?_
      clear kne HB0 HB1
      replace HS := hide HS.out.drew
      generalize W.drew = Wd at *
      refine wpRest_cons rfl rfl fun K hK => ?_
      go_big_op
      obtain ⟨_, hsP, hsR, hsT⟩ := hSes.out k hk _ HS.out.below
      refine (rwithWrite_any (A.q k).t.a (A.q k).t.n (A.q k).t.c (lz (M.at k).writes) b c (lz (M.at k).num (5 + a)) Wd (by have := hsT.2.1.1; omega) hsT.2.1.2.2 hsT.2.2).mono ?_
      rintro e W3 ⟨x, rfl, hx0, hxc, hxn, _, hxo, hb⟩
      have eT : (M.at k).tn = (A.q k).t.n := hsT.len (by decide)
      rw [show withWE (A.q k).t.n (lz (M.at k).writes) b c (lz (M.at k).num (5 + a)) = 0 by unfold withWE; rw [← eT, hW.out]; rfl]
      rw [← eT] at hxn hxo
      have hL := lis_of (D := fun j => Wd.heap.size ≤ j ∧ j < W3.heap.size) (k := 3) ⟨by have := hWn.out; omega, hxc, hx0⟩ fun h0 => by obtain ⟨b, e1, e2, e3, e4⟩ := hxo h0; exact ⟨b, e1, ⟨e2, e3⟩, e4⟩
      rw [show (List.range (x.n * 3)).map (withWZ (M.at k).tn (lz (M.at k).writes) b c (lz (M.at k).num (5 + a))) = (M.at k).withW b c ((M.at k).reg a) by rw [hxn]; rfl] at hL
      have HS1 := hide (HS.out.push hb (lisI (fun j => _) 3 x _) (lisI_loc _ _ _ _) hL fun k hk => hk)
      generalize (fun j => _) = D3 at HS1
      clear hL hxo hxn hx0 hxc hb HS hsP hsR hsT eT hW hWn
      replace HS := HS1
      clear HS1
      refine hK _ _ (fun _ => InC.mk ⟨HS.out.blk 1 rfl, HS.out.blk 2 rfl⟩) ?_
      clear hK K
      (try simp only [Act.put, List.setIfInBounds_toArray, List.set_cons_zero, List.set_cons_succ])
      refine wpRest_move _ rfl rfl rfl ?_
      (try simp only [Act.put, List.setIfInBounds_toArray, List.set_cons_zero, List.set_cons_succ])
      refine wpRest_extract _ 0 rfl rfl rfl rfl ?_
      (try simp only [Act.put, List.setIfInBounds_toArray, List.set_cons_zero, List.set_cons_succ])
      refine wpRest_extract _ 1 rfl rfl rfl rfl ?_
      (try simp only [Act.put, List.setIfInBounds_toArray, List.set_cons_zero, List.set_cons_succ])
      refine wpRest_assign _ rfl rfl rfl ?_
      (try simp only [Act.put, List.setIfInBounds_toArray, List.set_cons_zero, List.set_cons_succ])
      refine wpRest_assign _ rfl rfl rfl (wpRest_nil ?_)
      (try simp only [Act.put, List.setIfInBounds_toArray, List.set_cons_zero, List.set_cons_succ])
      refine NoPanic.normal ?_
      go_wp2_with (first | ((with_reducible refine isList ?_); first | (refine st_loadA HS 4 rfl _ _ rfl rfl rfl (by decide +kernel) (by kernel_rfl) ?_)))
      refine (hCopy.out _ HS.out.below).mono ?_
      rintro e W2 ⟨A1, rfl, hO, hb⟩
      have HS1 := hide (HS.out.push hb (machI (fun k => _) A1 M) (machI_loc _ _ _) hO fun k hk => hk)
      generalize (fun k => _) = D1 at HS1
      have hk1 : k < A1.s.n := by have := hO.is.sess.1; have := hX.out; omega
      have i4 : (k : Int) < (A1.s.n : Int) := by omega
      obtain ⟨bs1, hbs1, _⟩ := MachOwn.sblk hO hk1
      replace hbs1 := hide hbs1
      clear HS hb hO hCopy
      replace HS := HS1
      clear HS1
      go_upto_region 9 with (first | ((with_reducible refine isList ?_); first | (refine st_alloc HS _ rfl rfl zeroML zeroM ?_; clear HS; intro W bo HS) | (refine st_storeA HS 0 rfl _ _ _ rfl rfl rfl _ rfl rfl (by kernel_rfl) rfl ?_; clear HS; intro W HS)))
      replace HS : Hid (St w W [blkI bo (machL A1 M), machI D1 A1 M, lisI D3 3 x ((M.at k).withW b c ((M.at k).reg a)), blkI bi [.int .i64 (lz (M.at k).prog (p * 4)), .int .i64 a, .int .i64 b, .int .i64 c], blkI bx (sessL (lz (M.at k).num) (.slice (A.q k).p.a (A.q k).p.n (A.q k).p.c) (.slice (A.q k).r.a (A.q k).r.n (A.q k).r.c) (.slice (A.q k).t.a (A.q k).t.n (A.q k).t.c)), blkI br zeroML, blkI bm (machL A M)]) := HS
      replace hbs1 := hbs1.out
      go_upto_region 10 with (first | ((with_reducible refine isList ?_); first | (refine st_load1 HS 0 rfl _ _ rfl _ rfl rfl (by decide +kernel) rfl ?_) | (refine st_storeL HS 1 2 rfl 2 (by decide) rfl (by decide) hk1 hbs1 _ _ _ rfl _ rfl (show _ = k * 17 + 11 from by with_reducible rfl) rfl rfl (by decide +kernel) ?_; clear HS; intro W HS)))
      have eM : (M.setS k ((M.at k).setL 2 ((M.at k).withW b c ((M.at k).reg a)))).at k = (M.at k).setL 2 ((M.at k).withW b c ((M.at k).reg a)) := PMach.at_setS hk0
      replace HS : Hid (St w W [blkI bo (machL (A1.setQ k ((A1.q k).setL 2 x)) (M.setS k ((M.at k).setL 2 ((M.at k).withW b c ((M.at k).reg a))))), machI (fun k => D1 k ∨ D3 k) (A1.setQ k ((A1.q k).setL 2 x)) (M.setS k ((M.at k).setL 2 ((M.at k).withW b c ((M.at k).reg a)))), empI, blkI bi [.int .i64 (lz (M.at k).prog (p * 4)), .int .i64 a, .int .i64 b, .int .i64 c], blkI bx (sessL (lz (M.at k).num) (.slice (A.q k).p.a (A.q k).p.n (A.q k).p.c) (.slice (A.q k).r.a (A.q k).r.n (A.q k).r.c) (.slice (A.q k).t.a (A.q k).t.n (A.q k).t.c)), blkI br zeroML, blkI bm (machL A M)]) := HS
      replace hk1 : k < (A1.setQ k ((A1.q k).setL 2 x)).s.n := hk1
      replace i4 : (k : Int) < ((A1.setQ k ((A1.q k).setL 2 x)).s.n : Int) := i4
      have hbs2 : A1.s = (A1.setQ k ((A1.q k).setL 2 x)).s := rfl
      rw [hbs2] at hbs1
      have hT : Hid (∀ g, (tellP ((M.setS k ((M.at k).setL 2 ((M.at k).withW b c ((M.at k).reg a)))).doN k 4 ((p : Int) + 1)) k 1 ((M.at k).reg a), (0 : Int)) = g → storeP M k = g) := fun g hg => eS.out.trans hg
      generalize (fun k => D1 k ∨ D3 k) = D2 at HS
      generalize hM1 : M.setS k ((M.at k).setL 2 ((M.at k).withW b c ((M.at k).reg a))) = M1 at HS eM hT
      generalize A1.setQ k ((A1.q k).setL 2 x) = A2 at HS hk1 i4 hbs1 hbs2
      have hp1 : lz (M1.at k).num 4 = p := by rw [eM]; exact hp.out
      replace eM := hide eM
      replace hM1 := hide hM1
      replace hbs2 := hide hbs2
      go_upto_region 11 with (first | ((with_reducible refine isList ?_); first | (refine st_load1 HS 0 rfl _ _ rfl _ rfl rfl (by decide +kernel) rfl ?_) | (refine st_loadS (MachOwn.is (HS.out.get 1 (x := machI D2 A2 M1) rfl)) hk1 hbs1 5 (by decide) rfl _ _ rfl _ rfl (by rw [Nat.zero_add] <;> rfl) rfl (by decide +kernel) ?_) | (refine st_storeN HS 1 rfl hk1 hbs1 4 (by decide) _ _ _ rfl _ rfl (show _ = k * 17 + 5 from by with_reducible rfl) rfl rfl (by decide +kernel) ?_; clear HS; intro W HS)))
      obtain ⟨N1, hN1⟩ : ∃ N1, N1 = M1.doN k 4 ((p : Int) + 1) := ⟨_, rfl⟩
      obtain ⟨v, hv⟩ : ∃ v, v = (M.at k).reg a := ⟨_, rfl⟩
      have hreg : ∀ w' : World, Blk w' bx (sessL (lz (M.at k).num) (.slice (A.q k).p.a (A.q k).p.n (A.q k).p.c) (.slice (A.q k).r.a (A.q k).r.n (A.q k).r.c) (.slice (A.q k).t.a (A.q k).t.n (A.q k).t.c)) → w'.cell? ⟨bx, 6 + a, none⟩ = some (.int .i64 v) := fun w' h => by rw [hv]; exact h.cell (6 + a) _ (sessL_reg ha)
      rw [← hN1, ← hv] at hT
      have eL : machL A2 M1 = machL A2 N1 := by rw [hN1]; rfl
      replace HS : Hid (St w W [blkI bo (machL A2 M1), machI D2 A2 (M1.doN k 4 ((p : Int) + 1)), empI, blkI bi [.int .i64 (lz (M.at k).prog (p * 4)), .int .i64 a, .int .i64 b, .int .i64 c], blkI bx (sessL (lz (M.at k).num) (.slice (A.q k).p.a (A.q k).p.n (A.q k).p.c) (.slice (A.q k).r.a (A.q k).r.n (A.q k).r.c) (.slice (A.q k).t.a (A.q k).t.n (A.q k).t.c)), blkI br zeroML, blkI bm (machL A M)]) := HS
      rw [← hN1, eL] at HS
      replace hreg := hide hreg
      clear eL hv hN1
      have HB0 := HS.out.blk 0 rfl
      have HB3 := HS.out.blk 3 rfl
      have HB4 := HS.out.blk 4 rfl
      (try simp only [Act.put, List.setIfInBounds_toArray, List.set_cons_zero, List.set_cons_succ])
      refine wp_region_mask [true, true, true, true, true, true, true, false, false, false] [false, false, false, false, false, false, false, true, true, true] [0, 1, 2] (fun w' => Blk w' bo (machL A2 N1) ∧ Blk w' bi [.int .i64 (lz (M.at k).prog (p * 4)), .int .i64 a, .int .i64 b, .int .i64 c] ∧ Blk w' bx (sessL (lz (M.at k).num) (.slice (A.q k).p.a (A.q k).p.n (A.q k).p.c) (.slice (A.q k).r.a (A.q k).r.n (A.q k).r.c) (.slice (A.q k).t.a (A.q k).t.n (A.q k).t.c))) (by kernel_rfl) (by kernel_rfl) (by kernel_rfl) (by decide +kernel) ⟨HB0.drew, HB3.drew, HB4.drew⟩ ?_
      intro kne
      simp only [pickAt]
      repeat (first | ((first | (refine wpQuiet_la _ _ rfl bo (0) rfl rfl (by decide +kernel) (machL A2 N1) (by kernel_rfl) (fun w hC => hC.1.range) ?_) | (refine wpQuiet_ld _ _ rfl ⟨bi, 1, none⟩ rfl rfl (by decide +kernel) (fun w hC => hC.2.1.cell 1 _ rfl) ?_) | (refine wpQuiet_ld _ _ rfl ⟨bx, 6 + a, none⟩ rfl rfl (by decide +kernel) (fun w hC => hreg.out _ hC.2.2) ?_)); simp only [Act.put, List.setIfInBounds_toArray, List.set_cons_zero, List.set_cons_succ]) | go_big_quiet_step (fail))
      refine wpQuiet_nil ?_
      clear kne HB0 HB3 HB4
      replace HS := hide HS.out.drew
      generalize W.drew = Wd1 at *
      refine wpRest_cons rfl rfl fun K hK => ?_
      go_big_op
      refine (rtell_any w _ _ 1 D2 A2 N1 k _ v HS rfl hk1).mono ?_
      rintro e W4 ⟨D4, A4, rfl, HS2, _⟩
      replace HS2 : Hid (St w W4 [blkI bo (machL A2 N1), machI D4 A4 (tellP N1 k 1 v), empI, blkI bi [.int .i64 (lz (M.at k).prog (p * 4)), .int .i64 a, .int .i64 b, .int .i64 c], blkI bx (sessL (lz (M.at k).num) (.slice (A.q k).p.a (A.q k).p.n (A.q k).p.c) (.slice (A.q k).r.a (A.q k).r.n (A.q k).r.c) (.slice (A.q k).t.a (A.q k).t.n (A.q k).t.c)), blkI br zeroML, blkI bm (machL A M)]) := HS2
      clear HS
      refine hK _ _ (fun _ => InC.mk ⟨HS2.out.blk 0 rfl, HS2.out.blk 3 rfl, HS2.out.blk 4 rfl⟩) ?_
      clear hK K
      refine wpRest_cons rfl rfl fun K hK => ?_
      refine stw_storeA HS2 5 rfl _ _ _ rfl rfl (machL A4 (tellP N1 k 1 v)) rfl rfl (by kernel_rfl) rfl ?_
      clear HS2
      intro W5 HS
      refine hK _ _ (fun h => by cases h) ?_
      clear hK K
      refine wpRest_assign _ rfl rfl rfl (wpRest_nil ?_)
      (try simp only [Act.put, List.setIfInBounds_toArray, List.set_cons_zero, List.set_cons_succ])
      refine NoPanic.normal ?_
      go_wp2
      all_goals
        rw [hT.out _ rfl]
        exact bodyPost_ret (ret_mach2 Tryz.results85 (HS.out.blk 5 rfl) rfl rfl rfl) rfl (mret_of (R := (tellP N1 k 1 v, 0)) HS.out 1 (D := D4) (A := A4) rfl)
    · have hrb : (runP (M.at k) != 3) = true := by simpa using hr
      go_wp2_with (first | ((with_reducible refine isList ?_); first | (refine st_storeA HS 0 rfl _ _ _ rfl rfl rfl _ rfl rfl (by kernel_rfl) rfl ?_; clear HS; intro W HS)))
      rw [show storeP M k = (noMach, 1600) by unfold storeP; rw [hh, Int.toNat_natCast, decide_eq_false hr]; rfl]
      exact bodyPost_ret (ret_mach2 Tryz.results85 (HS.out.blk 0 rfl) rfl rfl rfl) rfl (mret_no HS.out.below)
end Go.Proofs.YtnjognmnbpcaaaaGreat
