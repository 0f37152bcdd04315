/-
  SameSession, of one session laid twice; the document's May.
-/
import Derived.Test.YtjjokalheloimaaGreatZlbb
namespace Go.Proofs.YtjjokalheloimaaGreat
open Go.RowKit
set_option linter.unusedVariables false
theorem sameSess_any (q q' : SesM) (x : PSess) (W : World) (h : SessIs W q x) (h' : SessIs W q' x) :
    Calls Tryz.prog 34 #[.agg (sessOf q x).toArray, .agg (sessOf q' x).toArray] W fun e w' => e = .returned (.bool true) ∧ Below W.heap.size W w' := by
  obtain ⟨_, p1, r1, t1⟩ := h
  obtain ⟨_, p2, r2, t2⟩ := h'
  have ep : q'.p.n = q.p.n := (p2.len (by decide)).symm.trans (p1.len (by decide))
  have er : q'.r.n = q.r.n := (r2.len (by decide)).symm.trans (r1.len (by decide))
  have et : q'.t.n = q.t.n := (t2.len (by decide)).symm.trans (t1.len (by decide))
  have P2 := p2.2.2
  have R2 := r2.2.2
  have T2 := t2.2.2
  show Calls Tryz.prog 34 #[sessA (lz x.num) (.slice q.p.a q.p.n q.p.c) (.slice q.r.a q.r.n q.r.c) (.slice q.t.a q.t.n q.t.c), sessA (lz x.num) (.slice q'.p.a q'.p.n q'.p.c) (.slice q'.r.a q'.r.n q'.r.c) (.slice q'.t.a q'.t.n q'.t.c)] W _
  rw [ep] at P2 ⊢
  rw [er] at R2 ⊢
  rw [et] at T2 ⊢
  exact sameSession_yes (lz x.num) q.p.a q'.p.a q.r.a q'.r.a q.t.a q'.t.a q.p.n q.p.c q'.p.c q.r.n q.r.c q'.r.c q.t.n q.t.c q'.t.c (lz x.prog) (lz x.reads) (lz x.writes) W (by have := p1.2.1.1; omega) (by have := r1.2.1.1; omega) (by have := t1.2.1.1; omega) p1.2.2 P2 r1.2.2 R2 t1.2.2 T2
theorem sameArena_yes (A B : MacM) (M N : PMach) (w : World) (h : MachIs w A M) (h' : MachIs w B N) (e : N.words = M.words) :
    Calls Tryz.prog 43 #[arenaA A.w, arenaA B.w] w fun e w' => e = .returned (.bool true) ∧ Below w.heap.size w w' := by
  have el : ∀ g, N.lv g = M.lv g := fun g => by unfold PMach.lv; rw [e]
  have hls : ∀ g, g < 4 → (A.w g).n = (B.w g).n := fun g hg => by
    rw [h.lens g hg, h'.lens g hg]
    show (M.lv g).length / 3 = (N.lv g).length / 3
    rw [el]
  have hz : N.wz = M.wz := by funext g; unfold PMach.wz; rw [el]
  have hB := h'.arn
  rw [hz] at hB
  have hAr := sameArena_any A.w B.w M.wz M.wz w h.short h.arn hB
  rw [show sameLv A.w B.w M.wz M.wz 4 = true from sameLv_mk fun g hg => ⟨hls g hg, fun _ _ => rfl⟩] at hAr
  exact hAr
end Go.Proofs.YtjjokalheloimaaGreat
