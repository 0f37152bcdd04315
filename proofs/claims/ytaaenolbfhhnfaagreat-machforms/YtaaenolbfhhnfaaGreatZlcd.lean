/-
  Several small texts in one: StartNewProg, WithLv.
-/
import Derived.Test.YtaaenolbfhhnfaaGreatZlag
import Derived.Test.YtaaenolbfhhnfaaGreatZlae
import Derived.Test.YtaaenolbfhhnfaaGreatZlac
import Derived.Test.YtaaenolbfhhnfaaGreatZlad
namespace Go.Proofs.YtaaenolbfhhnfaaGreat
open Go.RowKit
set_option linter.unusedSimpArgs false
set_option linter.unusedVariables false
set_option maxRecDepth 100000 in
set_option maxHeartbeats 4000000 in
theorem lnewSess_any (id l c : Int) (s : Sl) (p : List Int) (w : World) (h : SlIs w 4 s p) :
    Calls Tryz.prog 44 #[startA id l c (.slice s.a s.n s.c)] w fun e w' => ∃ q, e = .returned (.tuple #[.agg (sessOf q (newSessP id l c p).1).toArray, .int .i64 (newSessP id l c p).2]) ∧ SesOwn (fun k => w.heap.size ≤ k ∧ k < w'.heap.size) w' q (newSessP id l c p).1 ∧ Below w.heap.size w w' := by
  have HP := hide h
  have HS := hide (St.refl w)
  have hn : p.length / 4 = s.n := by rw [h.1, Nat.mul_div_cancel _ (by decide)]
  have HC := hide fun (W : World) (hb : Below w.heap.size w W) => may_sc id l c s.a s.n s.c (lz p) W (by have := h.2.1.1; omega) (h.below hb).2.2
  have e0 : startMay id l c s.n (lz p) = false → newSessP id l c p = (zeroSess, 1100) := fun hh => by unfold newSessP; rw [hn, hh]; rfl
  have e1 : startMay id l c s.n (lz p) = true → newSessP id l c p = (newSess id l c p, 0) := fun hh => by unfold newSessP; rw [hn, hh]; rfl
  replace e0 := hide e0
  replace e1 := hide e1
  clear hn h
  unfold startA at *
  go_enter Tryz.func44, Tryz.ntmps44
  go_wp2_with (first | ((with_reducible refine isList ?_); first | (refine st_box HS _ _ rfl rfl _ rfl ?_; clear HS; intro W bs HS) | (refine st_alloc HS _ rfl rfl zeroSL zeroS ?_; clear HS; intro W br HS) | (refine st_loadA HS 1 rfl _ _ rfl rfl rfl (by decide +kernel) (by kernel_rfl) ?_)))
  refine (HC.out _ HS.out.below).mono ?_
  (rintro e Wq ⟨rfl, hb⟩; have HSq := hide (HS.out.on hb); clear HS hb; replace HS := HSq; clear HSq)
  clear HC
  cases hm : startMay id l c s.n (lz p)
  · go_wp2_with (first | ((with_reducible refine isList ?_); first | (refine st_storeA HS 0 rfl _ _ _ rfl rfl rfl _ rfl rfl (by kernel_rfl) rfl ?_; clear HS; intro W HS)))
    rw [e0.out hm]
    exact bodyPost_ret (ret_sess2 Tryz.results44 (HS.out.blk 0 rfl) rfl rfl rfl) rfl ⟨⟨noSl, noSl, noSl⟩, rfl, sesOwn_zero _ _, HS.out.below⟩
  · go_upto_region 4 with (first | ((with_reducible refine isList ?_); first | (refine st_load1 HS 1 rfl _ _ rfl _ rfl rfl (by decide +kernel) rfl ?_) | (refine st_copyN HS 62 (HP.out.below HS.out.below) rfl _ _ _ rfl _ _ Tryz.underlying55 Tryz.infoInst rfl (by decide) rfl rfl rfl ?_; clear HS; intro W Dp sp hsp HS)))
    go_wp2_with (first | ((with_reducible refine isList ?_); first | (refine st_load1 HS 2 rfl _ _ rfl _ rfl rfl (by decide +kernel) rfl ?_) | (refine st_storeA HS 1 rfl _ _ _ rfl rfl rfl _ rfl rfl (by kernel_rfl) rfl ?_; clear HS; intro W HS)))
    replace HS : Hid (St w W [slI Dp 62 4 sp p, blkI br (sessOf ⟨sp, noSl, noSl⟩ (newSess id l c p)), blkI bs [.int .i64 id, .int .i64 l, .int .i64 c, .slice s.a s.n s.c]]) := HS
    rw [e1.out hm]
    refine bodyPost_ret (ret_sess2 Tryz.results44 (HS.out.blk 1 rfl) rfl rfl rfl) rfl ⟨⟨sp, noSl, noSl⟩, rfl, ?_, HS.out.below⟩
    exact (sesOwn_new id l c (HS.out.get 0 (x := slI Dp 62 4 sp p) rfl)).mono (HS.out.here 0 (slI Dp 62 4 sp p) rfl).2.2
end Go.Proofs.YtaaenolbfhhnfaaGreat
namespace Go.Proofs.YtaaenolbfhhnfaaGreat
open Go.RowKit
set_option linter.unusedSimpArgs false
set_option linter.unusedVariables false
def MacM.setW (A : MacM) (g : Nat) (s : Sl) : MacM := { A with w := fun j => if j = g then s else A.w j }
theorem MacM.sl_setW (A : MacM) {g : Nat} (hg : g < 4) (s : Sl) (j : Nat) : (A.setW g s).sl j = if j = g then s else A.sl j := by
  unfold MacM.sl MacM.setW
  by_cases h1 : j < 4
  · rw [if_pos h1, if_pos h1]
  · rw [if_neg h1, if_neg h1, if_neg (by omega : ¬ j = g)]
theorem PMach.lv_setLv' (M : PMach) {g : Nat} (hg : g < M.words.length) (l : List Int) (k : Nat) : (M.setLv g l).lv k = if k = g then l else M.lv k := by
  show (M.words.set g l).getD k [] = _
  by_cases e : k = g
  · subst e; rw [if_pos rfl, getD_set_eq _ _ hg]
  · rw [if_neg e, getD_set_ne' _ _ (Ne.symm e)]; rfl
theorem St.withCeil {w0 W : World} {L : List Itm} (h : St w0 W L) (i : Nat) {D : Nat → Prop} {A : MacM} {M : PMach} (ei : L[i]? = some (machI D A M)) (c : Int) : St w0 W (L.set i (machI D A { M with ceil := c })) := by
  have hM : MachOwn D W A M := h.get i ei
  exact h.set i ei _ (Chg.refl _ W) (machI_loc _ _ _) ⟨hM.is.ceilTo c, hM.own, hM.apart, hM.trace⟩ fun k hk => .inl hk
end Go.Proofs.YtaaenolbfhhnfaaGreat
