/-
  The law DriftOnce.
-/
import Derived.Test.YtaaenolbfhhnfaaGreatZlbc
import Derived.Test.YtaaenolbfhhnfaaGreatZlag
import Derived.Test.YtaaenolbfhhnfaaGreatZlba
import Derived.Test.YtaaenolbfhhnfaaGreatZlab
namespace Go.Proofs.YtaaenolbfhhnfaaGreat
open Go.RowKit
set_option linter.unusedSimpArgs false
set_option linter.unusedVariables false
theorem slI_nil (w0 W : World) (L : List Itm) (e : TypeId) (k : Nat) (h : St w0 W L) : St w0 W (slI (fun _ => False) e k noSl [] :: L) :=
  h.push (Below.refl _ W) (slI (fun _ => False) e k noSl []) (slI_loc _ _ _ _ _) ⟨slIs_none W k, slOwn_none _ _ rfl, _, rfl, by rw [show (noSl.n * k) = 0 from Nat.zero_mul k]; exact World.ownsRow_nil _ _ _ _, fun g hg => by simp [Value.ownBlock, noSl] at hg⟩ fun k hk => hk.elim
set_option maxRecDepth 100000 in
set_option maxHeartbeats 4000000 in
theorem driftOnce_at (a : Option Addr) (n c k : Nat) (z : Nat → Int) (G : Nat → Int) (w : World) (hn : n * 8 ≤ 140737488351232) (hr : Row w a n fun i => .int .i64 (z i)) (hk : k = min n 10) (hG : Hid (∀ j, bits .and .i64 (z j) 3 = G j ∧ 0 ≤ G j ∧ G j ≤ 3)) :
    Calls Tryz.prog 7 #[.slice a n c] w fun e w' => e = .returned (.bool true) ∧ Below w.heap.size w w' := by
  have HS := hide (St.refl w)
  have hRow := hide fun (W : World) (hb : Below w.heap.size w W) => hr.below hb (Nat.le_refl _)
  have hAw := hide fun (W : World) => awake14_any W
  have hH := hide fun (W : World) => high14_any 3 W
  have sN : Hid ((highM 3).sess.length = 2) := by show _ = 2; decide +kernel
  have eO : Hid (onceM = ((highM 3).setLv 2 [1, 0, 0]).doN 1 1 0) := rfl
  have hBeg := hide (once_begin (G := G) (k := k) (fun j => (hG.out j).2) (by omega))
  have hFree := hide once_free
  clear hr
  have hk10 : k ≤ 10 := by omega
  have hkn : k ≤ n := by omega
  replace hk := hide hk
  generalize onceM = O at eO hBeg hFree
  generalize highM 3 = N at hH sN eO
  go_enter Tryz.func7, Tryz.ntmps7
  go_wp2_with fail
  refine (hAw.out _).mono ?_
  (rintro e Wq ⟨rfl, hb⟩; have HSq := hide (HS.out.on hb); clear HS hb; replace HS := HSq; clear HSq)
  clear hAw
  go_wp2_with fail
  refine (hH.out _).mono ?_
  (rintro e Wq ⟨A1, rfl, hO, hb⟩; have HSq := hide (HS.out.push hb (machI (fun k => _) A1 _) (machI_loc _ _ _) hO fun k hk => hk); generalize (fun k => _) = D1 at HSq; clear HS hb hO; replace HS := HSq; clear HSq)
  clear hH
  go_upto_region 4 with (first | ((with_reducible refine isList ?_); first | (refine st_alloc HS _ rfl rfl zeroML zeroM ?_; clear HS; intro W b3 HS) | (refine st_storeA HS 0 rfl _ _ _ rfl rfl rfl _ rfl rfl (by kernel_rfl) rfl ?_; clear HS; intro W HS)))
  replace HS : Hid (St w W [blkI b3 (machL A1 N), machI D1 A1 N]) := HS
  go_upto_region 5 with (first | ((with_reducible refine isList ?_); first | (refine st_lit_1_3 HS _ 54 _ rfl rfl Tryz.underlying28 Tryz.infoW rfl ?_; clear HS; intro W bl HS) | (refine st_store1 HS 1 rfl _ _ _ rfl _ rfl rfl rfl (by decide +kernel) rfl rfl ?_; clear HS; intro W HS)))
  replace HS := hide ((HS.out.withLv 2 0 (g := 2) rfl rfl (by decide) (by decide)).sel [1, 2] (by decide) rfl)
  replace HS : Hid (St w W [blkI b3 (machL (A1.setW 2 ⟨some ⟨bl, 0, none⟩, 1, 1⟩) (N.setLv 2 [1, 0, 0])), machI (fun k => D1 k ∨ k = bl) (A1.setW 2 ⟨some ⟨bl, 0, none⟩, 1, 1⟩) (N.setLv 2 [1, 0, 0])]) := HS
  generalize A1.setW 2 ⟨some ⟨bl, 0, none⟩, 1, 1⟩ = A2 at HS
  generalize (fun k => D1 k ∨ k = bl) = D2 at HS
  have sN2 : Hid ((N.setLv 2 [1, 0, 0]).sess.length = 2) := sN.out
  generalize N.setLv 2 [1, 0, 0] = N2 at HS eO sN2
  have hk1 : 1 < A2.s.n := by
    have := (MachOwn.is (show MachOwn D2 _ A2 N2 from HS.out.get 1 rfl)).sess.1
    have := sN2.out; omega
  have i1 : (1 : Int) < (A2.s.n : Int) := by omega
  obtain ⟨bs1, hbs1, _⟩ := MachOwn.sblk (show MachOwn D2 _ A2 N2 from HS.out.get 1 rfl) hk1
  go_upto_region 6 with (first | ((with_reducible refine isList ?_); first | (refine st_load1 HS 0 rfl _ _ rfl _ rfl rfl (by decide +kernel) rfl ?_) | (refine st_storeN HS 1 rfl hk1 hbs1 1 (by decide) _ _ _ rfl _ rfl rfl rfl rfl (by decide +kernel) ?_; clear HS; intro W HS)))
  replace HS : Hid (St w W [blkI b3 (machL A2 (N2.doN 1 1 0)), machI D2 A2 (N2.doN 1 1 0)]) := HS
  rw [← eO.out] at HS
  clear eO sN2 sN
  replace hk1 := hide hk1; replace i1 := hide i1; replace hbs1 := hide hbs1
  go_upto_region 7 with fail
  have hif : ∀ inst : Decidable ((10 : Int) < (n : Int)), @ite Int ((10 : Int) < (n : Int)) inst 10 (n : Int) = (k : Int) := fun inst => by have := hk.out; split <;> omega
  rw [hif]
  clear hif
  go_upto_region 10 with fail
  replace HS := hide (slI_nil w W _ 62 4 HS.out)
  go_loopw [5, 6, 7, 8] (fun p jn wt i wr => ∃ (j : Nat) (D : Nat → Prop) (s : Sl), j ≤ k ∧ i = .int .i64 j ∧ p = .slice s.a s.n s.c ∧ Hid (s.n = j) ∧ jn = .int .i64 (joinP G j) ∧ wt = .int .i64 (upsP G j : Nat) ∧ Hid (St w wr [slI D 62 4 s (readsL G j), blkI b3 (machL A2 O), machI D2 A2 O])) (fun _ _ _ i _ => k - (intOf i).toNat)
  case atStart => exact ⟨0, _, noSl, Nat.zero_le _, rfl, rfl, rfl, rfl, rfl, HS⟩
  case round =>
    clear HS
    obtain ⟨j, D3, s, hj, rfl, rfl, hsn, rfl, rfl, HS⟩ := hrel
    by_cases hlt : j < k
    · have i2 : (j : Int) < (k : Int) := by omega
      have i3 : (j : Int) < (n : Int) := by omega
      obtain ⟨bz, oz, ez, _, cz⟩ := hRow.out _ HS.out.below j (by omega)
      have hz := hide ez
      obtain ⟨g1, g2, g3⟩ := hG.out j
      have hs512 : s.n < 512 := by have := hsn.out; omega
      obtain ⟨o, ho⟩ : ∃ o, bits .or .i64 (joinP G j) (G j) = o := ⟨_, rfl⟩
      have hj1 : Hid (joinP G (j + 1) = o) := ho
      have hr1 : Hid (readsL G (j + 1) = readsL G j ++ [2, 0, G j, 0]) := rfl
      obtain ⟨la, ela, hla, _, _⟩ := ups_few (G := G) (fun j => (hG.out j).2) j
      obtain ⟨lb, elb⟩ : ∃ lb : Nat, G j = lb := ⟨(G j).toNat, (Int.toNat_of_nonneg g2).symm⟩
      have hcm : bits .or .i64 (joinP G j) (G j) = bits .or .i64 (G j) (joinP G j) := by
        rw [ela, elb]
        have ea : la = 0 ∨ la = 1 ∨ la = 2 ∨ la = 3 := by omega
        have eb : lb = 0 ∨ lb = 1 ∨ lb = 2 ∨ lb = 3 := by omega
        rcases ea with rfl | rfl | rfl | rfl <;> rcases eb with rfl | rfl | rfl | rfl <;> decide +kernel
      have hou : underV (G j) (joinP G j) = (o == joinP G j) := by rw [← ho, hcm]; rfl
      have hu1 : upsP G (j + 1) = upsP G j + if (o == joinP G j) = true then 0 else 1 := by rw [← hou]; rfl
      have hup2 : ((upsP G j : Nat) : Int) ≤ 2 := by have := ups_two (fun j => (hG.out j).2) j; omega
      have hup0 : (0 : Int) ≤ ((upsP G j : Nat) : Int) := Int.natCast_nonneg _
      clear ela hla elb hcm hou
      by_cases hoq : o = joinP G j
      case' pos =>
        have ob : (o != joinP G j) = false := by simpa using hoq
        have eup : Hid (upsP G (j + 1) = upsP G j) := by show _ = _; rw [hu1]; simp [hoq]
      case' neg =>
        have ob : (o != joinP G j) = true := by simpa using hoq
        have eup : Hid (upsP G (j + 1) = upsP G j + 1) := by show _ = _; rw [hu1]; simp [hoq]
      all_goals
        clear hu1 hoq
        replace hs512 := hide hs512
        generalize readsL G j = rl at *
        generalize joinP G j = q at *
        generalize upsP G j = up at *
        generalize G j = gj at *
        go_upto_region 13 with fail
        go_upto_region 14 with (first | ((with_reducible refine isList ?_); first | (refine st_litB HS _ 62 1 _ rfl rfl Tryz.underlying55 Tryz.infoI (by decide) (by decide) [(0, .agg #[.int .i64 2, .int .i64 0, .int .i64 gj, .int .i64 0])] rfl _ (fill_i1 2 0 gj 0) ?_; clear HS; intro W bl HS) | (refine st_app1 (k := 4) (x := [2, 0, gj, 0]) HS 1 (fun q u hq => (show Blk _ bl [.int .i64 2, .int .i64 0, .int .i64 gj, .int .i64 0] from HS.out.get 0 rfl).cell q u hq) rfl rfl hs512.out rfl _ _ _ rfl _ _ Tryz.underlying55 Tryz.infoI rfl (by decide) (by decide) rfl rfl rfl ?_; clear HS; intro W D4 g4 c4 HS)))
        replace HS : Hid (St w W [slI D4 62 4 ⟨some ⟨g4, 0, none⟩, s.n + 1, c4⟩ (rl ++ [2, 0, gj, 0]), blkI b3 (machL A2 O), machI D2 A2 O]) := hide HS.out.tail
        rw [← hr1.out] at HS
        rw [← hz.out]
        clear ez cz
        go_wp2
        go_roundw
        case rel =>
          first
            | exact ⟨j + 1, D4, ⟨some ⟨g4, 0, none⟩, s.n + 1, c4⟩, by omega, by go_num, rfl, by show _ = _; have := hsn.out; show s.n + 1 = j + 1; omega, by rw [hj1.out], by rw [eup.out]; try go_num, HS⟩
            | (repeat apply Exists.intro
               exact ⟨⟨j + 1, D4, ⟨some ⟨g4, 0, none⟩, s.n + 1, c4⟩, by omega, by go_num, rfl, by show _ = _; have := hsn.out; show s.n + 1 = j + 1; omega, by rw [hj1.out], by rw [eup.out]; try go_num, HS⟩, rfl⟩)
        case measure => simp [intOf]; omega
    · obtain rfl : k = j := by omega
      clear hlt hj hRow
      replace hk1 := hk1.out; replace i1 := i1.out; replace hbs1 := hbs1.out
      replace HS := hide (HS.out.set 0 rfl (lisI D3 4 s (readsL G k)) (Chg.refl _ _) (lisI_loc _ _ _ _) ⟨(show ListOwn D3 62 4 _ s (readsL G k) from HS.out.get 0 rfl).is, (show ListOwn D3 62 4 _ s (readsL G k) from HS.out.get 0 rfl).own⟩ fun k hk => .inl hk)
      replace HS : Hid (St w wr [lisI D3 4 s (readsL G k), blkI b3 (machL A2 O), machI D2 A2 O]) := HS
      go_upto_region 17 with fail
      go_upto_region 18 with (first | ((with_reducible refine isList ?_); first | (refine st_load1 HS 1 rfl _ _ rfl _ rfl rfl (by decide +kernel) rfl ?_) | (refine st_storeL HS 2 0 rfl 0 (by decide) rfl (by decide) hk1 hbs1 _ _ _ rfl _ rfl rfl rfl rfl (by decide +kernel) ?_; clear HS; intro W HS)))
      replace HS : Hid (St w W [blkI b3 (machL (A2.setQ 1 ((A2.q 1).setL 0 s)) (O.setS 1 ((O.at 1).setL 0 (readsL G k)))), machI (fun k => D2 k ∨ D3 k) (A2.setQ 1 ((A2.q 1).setL 0 s)) (O.setS 1 ((O.at 1).setL 0 (readsL G k)))]) := hide (HS.out.sel [1, 2] (by decide) rfl)
      have hAt : Hid (OnceAt O.words G k (O.setS 1 ((O.at 1).setL 0 (readsL G k))) 0 0) := ⟨0, hBeg.out, .inl ⟨rfl, rfl⟩⟩
      clear hBeg hk1 i1 hbs1 hsn
      generalize (fun k => D2 k ∨ D3 k) = D4 at HS
      generalize A2.setQ 1 ((A2.q 1).setL 0 s) = A4 at HS
      generalize O.setS 1 ((O.at 1).setL 0 (readsL G k)) = N4 at HS hAt
      generalize O.words = W0 at hAt hFree
      go_upto_region 20 with fail
      go_loopw [10, 11] (fun dr i wr => ∃ (p d : Nat) (N : PMach) (A : MacM) (D : Nat → Prop), i = .int .i64 (p + d : Nat) ∧ dr = .int .i64 d ∧ (k = 0 ∨ p < k) ∧ p ≤ k ∧ Hid (OnceAt W0 G k N p d) ∧ Hid (St w wr [blkI b3 (machL A N), machI D A N])) (fun _ i _ => 2 * k - (intOf i).toNat)
      case atStart => exact ⟨0, 0, N4, A4, D4, rfl, rfl, by omega, Nat.zero_le _, hAt, HS⟩
      case round =>
        clear HS hAt
        obtain ⟨p, d, N, A, D, rfl, rfl, hkp, hpk, hI, HS⟩ := hrel
        have hfew := OnceAt.few hI.out (fun j => (hG.out j).2)
        obtain ⟨m, hm⟩ : ∃ m, m = p + d := ⟨_, rfl⟩
        rw [← hm]
        by_cases hlt : m < 2 * k
        · have hp : p < k := by omega
          have i2 : (m : Int) < 2 * (k : Int) := by omega
          have i3 : (k : Int) ≤ 10 := by omega
          have hGo := OnceAt.go hI.out (MachOwn.is (show MachOwn D _ A N from HS.out.get 1 rfl)) hk10 hp (fun j => (hG.out j).2) hFree.out
          have hNe := hide fun (W : World) (h : MachIs W A N) => driftNeeds_any A N 1 W h
          go_wp2_with (first | ((with_reducible refine isList ?_); first | (refine st_loadA HS 0 rfl _ _ rfl rfl rfl (by decide +kernel) (by kernel_rfl) ?_)))
          rcases hGo with ⟨N', en, ed, hI'⟩ | ⟨N', en, es, hI'⟩
          · have hE := hide fun (W : World) (h : MachIs W A N) => driftStep_any A N 1 W h
            rw [en] at hNe
            rw [ed] at hE
            clear en ed
            replace hI' := hide hI'
            refine (hNe.out _ (MachOwn.is (show MachOwn D _ A N from HS.out.get 1 rfl))).mono ?_
            (rintro e Wq ⟨rfl, hb⟩; have HSq := hide (HS.out.on hb); clear HS hb; replace HS := HSq; clear HSq)
            clear hNe
            go_wp2_with (first | ((with_reducible refine isList ?_); first | (refine st_loadA HS 0 rfl _ _ rfl rfl rfl (by decide +kernel) (by kernel_rfl) ?_)) | (go_at_call 21; refine (num_any _ _).mono ?_; rintro e w' ⟨rfl, rfl⟩))
            refine (hE.out _ (MachOwn.is (show MachOwn D _ A N from HS.out.get 1 rfl))).mono ?_
            (rintro e Wq ⟨AX, rfl, hO, hb⟩; have HSq := hide (HS.out.push hb (machI (fun k => _) AX _) (machI_loc _ _ _) hO fun k hk => hk); generalize (fun k => _) = DX at HSq; clear HS hb hO; replace HS := HSq; clear HSq)
            clear hE
            go_upto_region 25 with (first | ((with_reducible refine isList ?_); first | (refine st_alloc HS _ rfl rfl zeroML zeroM ?_; clear HS; intro W b14 HS) | (refine st_storeA HS 0 rfl _ _ _ rfl rfl rfl _ rfl rfl (by kernel_rfl) rfl ?_; clear HS; intro W HS)))
            replace HS : Hid (St w W [blkI b14 (machL AX N'), machI DX AX N', blkI b3 (machL A N), machI D A N]) := HS
            obtain ⟨n2, g⟩ := MachOwn.sfact (show MachOwn DX _ AX N' from HS.out.get 1 rfl) (OnceAt.two hI'.out)
            obtain ⟨s2, e2, _⟩ := g (by decide)
            clear g
            obtain ⟨c9, _⟩ := MachOwn.scell (show MachOwn DX _ AX N' from HS.out.get 1 rfl) (HS.out.blk 0 rfl) (OnceAt.two hI'.out) e2
            replace n2 := hide n2; replace e2 := hide e2
            go_upto_region 27 with (go_at_call 21; refine (num_any _ _).mono ?_; rintro e w' ⟨rfl, rfl⟩)
            clear c9
            have i4 : (d : Int) ≤ 10 := by omega
            have i5 : (0 : Int) ≤ (d : Int) := by omega
            have i6 : (m : Int) ≤ 20 := by omega
            have i7 : (0 : Int) ≤ (m : Int) := by omega
            go_wp2_with (first | ((with_reducible refine isList ?_); first | (refine st_loadA HS 0 rfl _ _ rfl rfl rfl (by decide +kernel) (by kernel_rfl) ?_) | (refine st_storeA HS 2 rfl _ _ _ rfl rfl rfl _ rfl rfl (by kernel_rfl) rfl ?_; clear HS; intro W HS)))
            replace HS : Hid (St w W [blkI b14 (machL AX N'), machI DX AX N', blkI b3 (machL AX N'), machI D A N]) := HS
            replace HS : Hid (St w W [blkI b3 (machL AX N'), machI DX AX N']) := hide (HS.out.sel [2, 1] (by decide) rfl)
            go_roundw
            case rel =>
              first
                | exact ⟨p, d + 1, N', AX, DX, (by rw [show p + (d + 1) = m + 1 by omega]; go_num), by go_num, hkp, hpk, hI', HS⟩
                | (repeat apply Exists.intro
                   exact ⟨⟨p, d + 1, N', AX, DX, (by rw [show p + (d + 1) = m + 1 by omega]; go_num), by go_num, hkp, hpk, hI', HS⟩, rfl⟩)
            case measure => simp [intOf]; omega
          · have hE := hide fun (W : World) (h : MachIs W A N) => rstep_any A N 1 W h
            rw [en] at hNe
            rw [es] at hE
            clear en es
            replace hI' := hide hI'
            refine (hNe.out _ (MachOwn.is (show MachOwn D _ A N from HS.out.get 1 rfl))).mono ?_
            (rintro e Wq ⟨rfl, hb⟩; have HSq := hide (HS.out.on hb); clear HS hb; replace HS := HSq; clear HSq)
            clear hNe
            go_wp2_with (first | ((with_reducible refine isList ?_); first | (refine st_loadA HS 0 rfl _ _ rfl rfl rfl (by decide +kernel) (by kernel_rfl) ?_)) | (go_at_call 21; refine (num_any _ _).mono ?_; rintro e w' ⟨rfl, rfl⟩))
            refine (hE.out _ (MachOwn.is (show MachOwn D _ A N from HS.out.get 1 rfl))).mono ?_
            (rintro e Wq ⟨AX, rfl, hO, hb⟩; have HSq := hide (HS.out.push hb (machI (fun k => _) AX _) (machI_loc _ _ _) hO fun k hk => hk); generalize (fun k => _) = DX at HSq; clear HS hb hO; replace HS := HSq; clear HSq)
            clear hE
            go_upto_region 30 with (first | ((with_reducible refine isList ?_); first | (refine st_alloc HS _ rfl rfl zeroML zeroM ?_; clear HS; intro W b16 HS) | (refine st_storeA HS 0 rfl _ _ _ rfl rfl rfl _ rfl rfl (by kernel_rfl) rfl ?_; clear HS; intro W HS)))
            replace HS : Hid (St w W [blkI b16 (machL AX N'), machI DX AX N', blkI b3 (machL A N), machI D A N]) := HS
            obtain ⟨n2, g⟩ := MachOwn.sfact (show MachOwn DX _ AX N' from HS.out.get 1 rfl) (OnceAt.two hI'.out)
            obtain ⟨s2, e2, _⟩ := g (by decide)
            clear g
            obtain ⟨c9, _⟩ := MachOwn.scell (show MachOwn DX _ AX N' from HS.out.get 1 rfl) (HS.out.blk 0 rfl) (OnceAt.two hI'.out) e2
            replace n2 := hide n2
            go_upto_region 32 with fail
            clear c9
            go_upto_region 33 with (first | ((with_reducible refine isList ?_); first | (refine st_loadA HS 0 rfl _ _ rfl rfl rfl (by decide +kernel) (by kernel_rfl) ?_) | (refine st_storeA HS 2 rfl _ _ _ rfl rfl rfl _ rfl rfl (by kernel_rfl) rfl ?_; clear HS; intro W HS)))
            replace HS : Hid (St w W [blkI b16 (machL AX N'), machI DX AX N', blkI b3 (machL AX N'), machI D A N]) := HS
            replace HS : Hid (St w W [blkI b3 (machL AX N'), machI DX AX N']) := hide (HS.out.sel [2, 1] (by decide) rfl)
            obtain ⟨c9, r9⟩ := MachOwn.scell (show MachOwn DX _ AX N' from HS.out.get 1 rfl) (HS.out.blk 0 rfl) (OnceAt.two hI'.out) e2
            have hpc := OnceAt.pc hI'.out
            have c22 : W.cell? ⟨s2, 22, none⟩ = some (.int .i64 ((p + 1 : Nat) : Int)) := by rw [← hpc]; exact r9 1 (by decide) 5 _ rfl
            clear r9 hpc
            replace e2 := hide e2
            obtain ⟨p1, hp1⟩ : ∃ p1, p1 = p + 1 := ⟨_, rfl⟩
            rw [← hp1] at c22
            have i6 : (m : Int) ≤ 20 := by omega
            have i7 : (0 : Int) ≤ (m : Int) := by omega
            by_cases hb : p1 < k
            · have i8 : ¬ (k : Int) ≤ (p1 : Int) := by omega
              go_wp2
              go_roundw
              case rel =>
                first
                  | exact ⟨p + 1, d, N', AX, DX, (by rw [show p + 1 + d = m + 1 by omega]; go_num), rfl, by omega, by omega, hI', HS⟩
                  | (repeat apply Exists.intro
                     exact ⟨⟨p + 1, d, N', AX, DX, (by rw [show p + 1 + d = m + 1 by omega]; go_num), rfl, by omega, by omega, hI', HS⟩, rfl⟩)
              case measure => simp [intOf]; omega
            · have i8 : (k : Int) ≤ (p1 : Int) := by omega
              have ek : p + 1 = k := by omega
              rw [ek] at hI'
              go_upto_region 34 with fail
              clear c9 c22
              clear hI hfew
              have hI := hI'
              clear hI'
              clear e2 n2
              obtain ⟨hl1, hd1⟩ := OnceAt.done hI.out
              obtain ⟨_, hd2⟩ := OnceAt.few hI.out (fun j => (hG.out j).2)
              subst hd1
              have u2 : ((upsP G k : Nat) : Int) ≤ 2 := by omega
              obtain ⟨n2, g⟩ := MachOwn.sfact (show MachOwn DX _ AX N' from HS.out.get 1 rfl) (OnceAt.two hI.out)
              obtain ⟨s2, e2, _⟩ := g (by decide)
              clear g
              obtain ⟨c9, r9⟩ := MachOwn.scell (show MachOwn DX _ AX N' from HS.out.get 1 rfl) (HS.out.blk 0 rfl) (OnceAt.two hI.out) e2
              have c18 : W.cell? ⟨s2, 18, none⟩ = some (.int .i64 (joinP G k)) := by rw [← hl1]; exact r9 1 (by decide) 1 _ rfl
              clear r9 hl1 hd2
              replace n2 := hide n2; replace e2 := hide e2
              generalize upsP G k = u at *
              generalize joinP G k = q at *
              go_wp2
              go_ret
              exact ⟨rfl, HS.out.below⟩
        · have ek : p = k := by omega
          have i2 : ¬ (m : Int) < 2 * (k : Int) := by omega
          have i3 : (k : Int) ≤ 10 := by omega
          rw [ek] at hI
          clear hfew
          go_upto_region 34 with fail
          obtain ⟨hl1, hd1⟩ := OnceAt.done hI.out
          obtain ⟨_, hd2⟩ := OnceAt.few hI.out (fun j => (hG.out j).2)
          subst hd1
          have u2 : ((upsP G k : Nat) : Int) ≤ 2 := by omega
          obtain ⟨n2, g⟩ := MachOwn.sfact (show MachOwn D _ A N from HS.out.get 1 rfl) (OnceAt.two hI.out)
          obtain ⟨s2, e2, _⟩ := g (by decide)
          clear g
          obtain ⟨c9, r9⟩ := MachOwn.scell (show MachOwn D _ A N from HS.out.get 1 rfl) (HS.out.blk 0 rfl) (OnceAt.two hI.out) e2
          have c18 : wr.cell? ⟨s2, 18, none⟩ = some (.int .i64 (joinP G k)) := by rw [← hl1]; exact r9 1 (by decide) 1 _ rfl
          clear r9 hl1 hd2
          replace n2 := hide n2; replace e2 := hide e2
          generalize upsP G k = u at *
          generalize joinP G k = q at *
          go_wp2
          go_ret
          exact ⟨rfl, HS.out.below⟩
theorem driftOnce_any (a : Option Addr) (n c : Nat) (z : Nat → Int) (w : World) (hn : n * 8 ≤ 140737488351232) (hr : Row w a n fun i => .int .i64 (z i)) :
    Calls Tryz.prog 7 #[.slice a n c] w fun e w' => e = .returned (.bool true) ∧ Below w.heap.size w w' :=
  driftOnce_at a n c (min n 10) z (fun j => bits .and .i64 (z j) 3) w hn hr rfl (hide fun j => ⟨rfl, by rw [mask3]; omega, by rw [mask3]; omega⟩)
end Go.Proofs.YtaaenolbfhhnfaaGreat
