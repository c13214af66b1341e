/- ZoneNear: its walk, over the contracts. -/
import Derived.Test.YtealnnppoffmnaaGreatDoorGW
import Derived.BigQuiet
import Derived.Deep.RegionHeld3
namespace Go.Proofs.YtealnnppoffmnaaGreatDoor
open Go.RowKit Go.Maps
namespace Dz
open Fr Bd Zn
theorem near_find {D : Nat → Int} {q : Nat → Bool} {b : Nat} : ∀ {L : List Nat}, L.Pairwise (Lx D) → b ∈ L → q b = true → (∀ j ∈ L, q j = true → D b < D j ∨ (D b = D j ∧ b ≤ j)) → L.find? q = some b
  | [], _, h, _, _ => by cases h
  | y :: l, hp, hm, hq, h => by
    rw [List.pairwise_cons] at hp
    rw [List.find?_cons]
    cases hy : q y with
    | true =>
      have h1 := h y (List.mem_cons_self ..) hy
      rcases List.mem_cons.1 hm with rfl | hm
      · rfl
      · have h2 := hp.1 b hm
        unfold Lx at h2
        omega
    | false =>
      rcases List.mem_cons.1 hm with rfl | hm
      · rw [hy] at hq; cases hq
      · exact near_find hp.2 hm hq (fun j hj hh => h j (List.mem_cons_of_mem _ hj) hh)
theorem tk0_iff {mn : Int} {d : Nd} (h : d.ok) (h0 : 0 ≤ mn) : tkC 0 mn false d = 2 ↔ mn < pgs d.F := by
  have h1 := (okB_tk (o := 0) (mn := mn) (u := false) (Int.le_refl 0) h).1
  have h2 : tkC 0 mn false d = 2 ↔ okB 0 mn false d = true := by rw [h1]; simp
  rw [h2]
  unfold okB sprB
  have hp : pw 0 = 1 := by decide
  rw [hp]
  simp only [Bool.false_or, Bool.and_eq_true, decide_eq_true_eq]
  constructor
  · rintro ⟨_, h3⟩; omega
  · intro h3
    refine ⟨?_, by omega⟩
    unfold fitB
    rw [List.any_eq_true]
    cases hF : d.F with
    | nil => rw [hF] at h3; simp [pgs] at h3; omega
    | cons y l => exact ⟨y, List.mem_cons_self .., by have := (nd_len h).2.2 y (by rw [hF]; exact List.mem_cons_self ..); simpa using this.1⟩
/-- The best node so far: the nearest one that may give a page. -/
def Best (D : Nat → Int) (mn : Int) (pf : Nat → Int) (k : Nat) (b : Int) : Prop :=
  (b = -1 ∧ ∀ j, j < k → ¬ mn < pf j) ∨ ∃ b' : Nat, b = b' ∧ b' < k ∧ mn < pf b' ∧ ∀ j, j < k → mn < pf j → D b' < D j ∨ (D b' = D j ∧ b' ≤ j)
theorem Best.no {D : Nat → Int} {mn : Int} {pf : Nat → Int} {k : Nat} {b : Int} (h : Best D mn pf k b) (hn : ¬ mn < pf k) : Best D mn pf (k + 1) b := by
  rcases h with ⟨h1, h2⟩ | ⟨b', h1, h2, h3, h4⟩
  · refine Or.inl ⟨h1, fun j hj => ?_⟩
    by_cases e : j = k
    · subst e; exact hn
    · exact h2 j (by omega)
  · refine Or.inr ⟨b', h1, by omega, h3, fun j hj hh => ?_⟩
    by_cases e : j = k
    · subst e; exact absurd hh hn
    · exact h4 j (by omega) hh
theorem Best.first {D : Nat → Int} {mn : Int} {pf : Nat → Int} {k : Nat} (h : ∀ j, j < k → ¬ mn < pf j) (hn : mn < pf k) : Best D mn pf (k + 1) k := by
  refine Or.inr ⟨k, rfl, by omega, hn, fun j hj hh => ?_⟩
  by_cases e : j = k
  · subst e; exact Or.inr ⟨rfl, Nat.le_refl _⟩
  · exact absurd hh (h j (by omega))
theorem Best.nearer {D : Nat → Int} {mn : Int} {pf : Nat → Int} {k b' : Nat} (h4 : ∀ j, j < k → mn < pf j → D b' < D j ∨ (D b' = D j ∧ b' ≤ j)) (hn : mn < pf k) (hd : D k < D b') : Best D mn pf (k + 1) k := by
  refine Or.inr ⟨k, rfl, by omega, hn, fun j hj hh => ?_⟩
  by_cases e : j = k
  · subst e; exact Or.inr ⟨rfl, Nat.le_refl _⟩
  · have := h4 j (by omega) hh; omega
theorem Best.farther {D : Nat → Int} {mn : Int} {pf : Nat → Int} {k b' : Nat} (h2 : b' < k) (h3 : mn < pf b') (h4 : ∀ j, j < k → mn < pf j → D b' < D j ∨ (D b' = D j ∧ b' ≤ j)) (hd : ¬ D k < D b') : Best D mn pf (k + 1) b' := by
  refine Or.inr ⟨b', rfl, by omega, h3, fun j hj hh => ?_⟩
  by_cases e : j = k
  · subst e; omega
  · exact h4 j (by omega) hh
/-- Take, its answer passed by. -/
theorem ztake_some (z : Nat) (mn lw hi : Int) (k : Nat) (nb fm tm : Nat → Nat) (nd : Nat → Nd) (fr : Nat → List Nat) (x o : Int) (u : Bool) (w0 w : World) (e : Nat → Addr) (bc : Nat) (c : Cf) (p q : Option Addr) (pc qc : Nat) (he : Errs w e) (h : DZ w z mn lw hi k nb fm tm nd fr) (hk4 : k ≤ 20) (hb : Below w0.heap.size w0 w) (hfr : ∀ i, i < k → w0.heap.size ≤ fm i ∧ w0.heap.size ≤ tm i) (hx : Box w bc c p pc q qc) :
    Calls Tryz.prog 24 #[.pointer (some ⟨z, 0, none⟩), .int .i64 x, .int .i64 o, .bool u] w fun ev w' => ∃ v0 v1, ev = .returned (.tuple #[v0, v1]) ∧ Below w0.heap.size w0 w' ∧ Box w' bc c p pc q qc ∧ ∃ nd', DZ w' z mn lw hi k nb fm tm nd' fr := by
  refine (ztake_any z mn lw hi k nb fm tm nd fr x o u w e he h hk4).mono fun ev w' hh => ?_
  rcases hh with ⟨a, _, h1, h2, _⟩ | ⟨x', i, at', _, _, _, _, _, h2, _, h3, h4, h5⟩
  · exact ⟨_, _, h1, hb.trans (h2.mono hb.size), hx.b h2, nd, h.b h2⟩
  · have hi' := hfr i h2
    exact ⟨_, _, h3, hb.trans (h5.below (N := w0.heap.size) hi'.1 hi'.2 hb.size), box_turn hx (h.bd i h2).f (h.bd i h2).t h5, _, h4⟩
set_option maxRecDepth 100000 in
set_option maxHeartbeats 8000000 in
theorem znear_ok (c : Cf) (p q : Option Addr) (pc qc : Nat) (node : Int) (lp : Option Addr) (ln lc : Nat) (A : Nat → ZA) (w : World) (e : Nat → Addr) (he : Errs w e) (h : At w c p q) (hpc : p = none → pc = 0) (hz : ZActs w lp ln A) :
    Calls Tryz.prog 5 #[cfV c p pc q qc, .int .i64 node, .slice lp ln lc] w fun ev w' => ev = .returned (.bool true) ∧ Below w.heap.size w w' := by
  have F1 := ballo (Below.refl w.heap.size w) (.cells #[.slice p c.n pc, .slice q c.m qc, .int .i64 c.mn, .int .i64 c.lw, .int .i64 c.hi] 51)
  have BX := box_new w c p q pc qc 51
  have HZO := hide (zoned_ok _ e (he.below F1))
  have HWD := hide (fun w1 (hb : Below w.heap.size w w1) => wide_ok c p q pc qc w1 (h.b hb))
  have HE := hide he
  have HA := hide h
  have HAC := hide hz
  clear he h hz
  unfold cfV
  go_enter Tryz.func5, Tryz.ntmps5
  go_upto_region 1 with (fail)
  generalize w.alloc (.cells #[.slice p c.n pc, .slice q c.m qc, .int .i64 c.mn, .int .i64 c.lw, .int .i64 c.hi] 51) = W at *
  have hbx := BX.lt
  go_wp2_with fail
  refine (unhide HZO).mono ?_
  rintro ev w1 ⟨rfl, b1⟩
  have G1 := btr F1 b1
  obtain ⟨x0, x1, x2, x3, x4, _⟩ := BX.b b1
  have HW := hide ((unhide HWD) w1 G1)
  unfold cfV at *
  clear HZO HWD
  go_wp2_with fail
  refine (unhide HW).mono ?_
  rintro ev w2 ⟨d, rfl, hd, b2⟩
  have G2 := btr G1 b2
  rcases hd with ⟨rfl, _⟩ | ⟨rfl, hnw⟩
  · go_wp2
    go_ret
    exact ⟨rfl, G2⟩
  by_cases hl : 60 < ln
  · have d1 : decide ((60 : Int) < ln) = true := by simp; omega
    go_wp2
    go_ret
    exact ⟨rfl, G2⟩
  have d1 : decide ((60 : Int) < ln) = false := by simp; omega
  obtain ⟨y0, y1, y2, y3, y4, _⟩ := (BX.b b1).b b2
  have HCO := hide (conf_ok c p q pc qc w2 ((unhide HA).b G2) hnw hpc)
  unfold cfV at *
  clear HW x0 x1 x2 x3 x4
  go_wp2_with fail
  refine (unhide HCO).mono ?_
  rintro ev w3 ⟨p', q', pc', qc', rfl, A3, b3⟩
  have G3 := btr G2 b3
  have BX3 := hide (((BX.b b1).b b2).b b3)
  clear HCO BX y0 y1 y2 y3 y4
  obtain ⟨i, hi⟩ := Cf.is_ex c
  by_cases hi0 : i = 0
  · subst hi0
    have HN := hide (znew_ok c p' q' pc' qc' w3 e ((unhide HE).below G3).three A3 hnw hi)
    have hk4 : c.n ≤ 20 := Nat.le_of_not_lt fun h => hnw (Or.inl h)
    obtain ⟨hb2, hsh, _⟩ : ¬ c.bad2 ∧ c.shp ∧ ¬ c.bad3 := by
      rcases hi with ⟨h, _⟩ | ⟨h, _⟩ | ⟨_, h⟩
      · exact absurd h (by decide)
      · exact absurd h (by decide)
      · exact h
    have hmn : 0 ≤ c.mn := Int.not_lt.1 fun hh => hb2 (Or.inr (Or.inr (Or.inr (Or.inr (Or.inl hh)))))
    have HDB : Hid (∀ i, i < c.n → ∀ k, k < c.n → 0 ≤ c.D i k ∧ c.D i k ≤ 1000) := fun i hi k hk => ⟨Int.not_lt.1 fun hh => hb2 (Or.inr (Or.inr (Or.inr (Or.inl ⟨i, by rw [hsh.1]; exact hi, k, by rw [hsh.2 i (by rw [hsh.1]; exact hi)]; exact hk, Or.inl hh⟩)))), Int.not_lt.1 fun hh => hb2 (Or.inr (Or.inr (Or.inr (Or.inl ⟨i, by rw [hsh.1]; exact hi, k, by rw [hsh.2 i (by rw [hsh.1]; exact hi)]; exact hk, Or.inr hh⟩))))⟩
    have HSH := hide hsh
    clear hb2 hsh hi
    unfold cfV at *
    clear A3
    go_wp2_with fail
    refine (unhide HN).mono ?_
    rintro ev w4 ⟨z, nb, fm, tm, rfl, D4, fr4, b4⟩
    have G4 := btr G3 b4
    have BX4 := (unhide BX3).b b4
    have hs3 := G3.size
    have HFR : Hid (∀ i, i < c.n → w.heap.size ≤ fm i ∧ w.heap.size ≤ tm i) := fun i hi => by have := fr4 i hi; omega
    have u0 := BX4.c0
    clear HN BX3 fr4
    unfold ptr at *
    by_cases hx : 0 ≤ node ∧ node < c.n
    · obtain ⟨x, rfl⟩ := Int.eq_ofNat_of_zero_le hx.1
      have e1 : decide ((x : Int) < 0) = false := decide_eq_false (by omega)
      have e2 : decide ((c.n : Int) ≤ x) = false := decide_eq_false (by omega)
      have hxn : x < c.n := by omega
      have e3 : decide (c.n ≤ x) = false := decide_eq_false (by omega)
      clear hx
      go_wp2_with fail
      have D4 := hide D4
      have G4 := hide G4
      have BX4 := hide BX4
      clear u0
      have HSM := hide (fun w1 nd x o u bc (he : Errs w1 e) (h : DZ w1 z c.mn c.lw c.hi c.n nb fm tm nd (fun i => nfr (c.D i) c.n 1001)) (hb : Below w.heap.size w w1) (hx : Box w1 bc c p pc q qc) => ztake_some z c.mn c.lw c.hi c.n nb fm tm nd _ x o u w w1 e bc c p q pc qc he h hk4 hb (unhide HFR) hx)
      go_loopw [10] (fun a wr => ∃ (j : Nat) (nd : Nat → Nd), a = .int .i64 j ∧ j ≤ ln ∧ Hid (DZ wr z c.mn c.lw c.hi c.n nb fm tm nd (fun i => nfr (c.D i) c.n 1001)) ∧ Hid (Below w.heap.size w wr) ∧ Hid (Box wr w.heap.size c p pc q qc)) (fun a _ => ln - (RowKit.intOf a).toNat)
      case atStart => exact ⟨0, _, rfl, Nat.zero_le _, D4, G4, BX4⟩
      case round =>
        clear D4 G4 BX4
        obtain ⟨j, nd, rfl, hj, hD, hB, hX⟩ := hrel
        have hge : (0 : Int) ≤ j := by omega
        by_cases hjl : j < ln
        · have hlt : (j : Int) < ln := by omega
          obtain ⟨blk, off, rfl, hbl, c0, c1, c2, c3, c4, c5, c6⟩ := (unhide HAC) j hjl
          generalize A j = a at *
          obtain ⟨s, xa, o, u, px, pa, po⟩ := a
          simp only at c0 c1 c2 c3 c4 c5 c6
          have k1 := ((unhide hB).cell (p := ⟨blk, _, none⟩) hbl).trans c1
          have k2 := ((unhide hB).cell (p := ⟨blk, _, none⟩) hbl).trans c2
          have k3 := ((unhide hB).cell (p := ⟨blk, _, none⟩) hbl).trans c3
          have KM := hide (fun w1 (hb : Below w.heap.size w w1) => show w1.cell? ⟨blk, off + j * 7 + 1, none⟩ = some (.int .i64 xa) ∧ w1.cell? ⟨blk, off + j * 7 + 2, none⟩ = some (.int .i64 o) ∧ w1.cell? ⟨blk, off + j * 7 + 3, none⟩ = some (.bool u) from ⟨(hb.cell (p := ⟨blk, _, none⟩) hbl).trans c1, (hb.cell (p := ⟨blk, _, none⟩) hbl).trans c2, (hb.cell (p := ⟨blk, _, none⟩) hbl).trans c3⟩)
          have Bd' : Below w.heap.size w wr.drew := (unhide hB).drew
          have HT := hide ((unhide HSM) wr.drew nd xa o u w.heap.size ((unhide HE).below Bd') ((unhide hD).b (drw wr)) Bd' ((unhide hX).b (drw wr)))
          clear c0 c1 c2 c3 c4 c5 c6 hD hB hX Bd'
          go_wp2_with fail
          go_region_held3 (fun w1 => w1.cell? ⟨blk, off + j * 7 + 1, none⟩ = some (.int .i64 xa) ∧ w1.cell? ⟨blk, off + j * 7 + 2, none⟩ = some (.int .i64 o) ∧ w1.cell? ⟨blk, off + j * 7 + 3, none⟩ = some (.bool u)) ((first | (go_keep; done) | (exact (unhide KM) _ (by assumption)))) ((go_at_call 24; refine (unhide HT).mono ?_; rintro ev w6 ⟨v0, v1, rfl, B6, X6, nd', D6⟩))
          have B6 := hide B6
          have X6 := hide X6
          have D6 := hide D6
          clear HT KM k1 k2 k3
          go_wp2_with fail
          go_roundw
          case rel => exact ⟨j + 1, nd', by go_num, by omega, D6, B6, X6⟩
          case measure => simp [RowKit.intOf]; omega
        · have hjn : j = ln := by omega
          subst hjn
          have hnl : ¬ (j : Int) < j := by omega
          clear HSM HAC
          go_wp2_with fail
          have HOK := hide (unhide hD).ok
          have HRW : Hid (∃ blk off pr cc, q = some ⟨blk, off, none⟩ ∧ blk < w.heap.size ∧ w.cell? ⟨blk, off + x, none⟩ = some (.slice pr c.n cc) ∧ Nums w pr c.n (c.D x)) := by
            obtain ⟨blk, off, pr, cc, h1, h2, h3, h4, _⟩ := (unhide HA).rs x (by rw [(unhide HSH).1]; exact hxn)
            rw [(unhide HSH).2 x (by rw [(unhide HSH).1]; exact hxn)] at h3 h4
            exact ⟨blk, off, pr, cc, h1, h2, h3, h4⟩
          obtain ⟨rb, ro, pr, cc, rfl, hrb, hrc, hnm⟩ := unhide HRW
          have hnm := hide hnm
          have hrc := hide hrc
          have hmq := hide (show c.m = c.n from (unhide HSH).1)
          clear HRW
          go_loopw [11, 12] (fun b a wr => ∃ (k : Nat) (bb : Int), a = .int .i64 k ∧ b = .int .i64 bb ∧ k ≤ c.n ∧ Hid (Best (c.D x) c.mn (fun j => pgs (nd j).F) k bb) ∧ Hid (DZ wr z c.mn c.lw c.hi c.n nb fm tm nd (fun i => nfr (c.D i) c.n 1001)) ∧ Hid (Below w.heap.size w wr) ∧ Hid (Box wr w.heap.size c p pc (some ⟨rb, ro, none⟩) qc)) (fun _ a _ => c.n - (RowKit.intOf a).toNat)
          case atStart => exact ⟨0, -1, rfl, rfl, Nat.zero_le _, Or.inl ⟨rfl, fun j hj => by omega⟩, hD, hB, hX⟩
          case round =>
            clear hD hB hX
            obtain ⟨k, bb, rfl, rfl, hk, hBB, hD, hB, hX⟩ := hrel
            have hgk : (0 : Int) ≤ k := by omega
            have y0 := (unhide hX).c0
            by_cases hkn : k < c.n
            · have hltk : (k : Int) < c.n := by omega
              have HF := hide (zfree_ok z c.mn c.lw c.hi c.n nb fm tm nd _ k wr (unhide hD) hkn)
              unfold ptr at *
              go_wp2_with fail
              refine (unhide HF).mono ?_
              rintro ev w6 ⟨rfl, b6⟩
              have B6 := (unhide hB).trans (b6.mono (unhide hB).size)
              have X6 := (unhide hX).b b6
              have D6 := hide ((unhide hD).b b6)
              have y1 := X6.c1
              have y2 := X6.c2
              have yr := (B6.cell (p := ⟨rb, ro + x, none⟩) hrb).trans (unhide hrc)
              obtain ⟨nb', no', rfl, hnb, hck⟩ := (unhide hnm) k hkn
              have yk := (B6.cell (p := ⟨nb', no' + k, none⟩) hnb).trans hck
              rw [unhide hmq] at y1
              have B6 := hide B6
              have X6 := hide X6
              have FIN : ∀ (bb' : Int), Hid (Best (c.D x) c.mn (fun j => pgs (nd j).F) (k + 1) bb') → Hid (Best (c.D x) c.mn (fun j => pgs (nd j).F) (k + 1) bb') := fun _ h => h
              clear HF hD hB hX hck b6 FIN
              by_cases hpf : c.mn < pgs (nd k).F
              · have d5 : decide (pgs (nd k).F > c.mn) = true := by simpa using hpf
                rcases unhide hBB with ⟨rfl, hno⟩ | ⟨b', rfl, hbk, hbp, hbm⟩
                · have HB2 := hide (Best.first (D := c.D x) hno hpf)
                  clear hno hBB hpf
                  generalize pgs (nd k).F = pf at *
                  go_wp2_with fail
                  go_quiet (fail)
                  have B7 := hide (bdN (unhide B6) nq)
                  have X7 := hide ((unhide X6).b (bdN (Below.refl _ w6) nq))
                  have D7 := hide ((unhide D6).b (bdN (Below.refl _ w6) nq))
                  clear B6 X6 D6 y1 y2 yr yk
                  go_wp2_with fail
                  go_roundw
                  case rel => exact ⟨k + 1, (k : Int), by go_num, rfl, by omega, HB2, D7, B7, X7⟩
                  case measure => simp [RowKit.intOf]; omega
                · obtain ⟨nb2, no2, e3, _, hcb⟩ := (unhide hnm) b' (by omega)
                  simp only [Option.some.injEq, Addr.mk.injEq, and_true] at e3
                  obtain ⟨rfl, rfl⟩ := e3
                  have yb := ((unhide B6).cell (p := ⟨nb', no' + b', none⟩) hnb).trans hcb
                  have hbn : (b' : Int) < c.n := by omega
                  have hb0 : (0 : Int) ≤ b' := by omega
                  have d6 : decide ((b' : Int) < 0) = false := decide_eq_false (by omega)
                  by_cases hdd : c.D x k < c.D x b'
                  · have d7 : decide (c.D x k < c.D x b') = true := by simpa using hdd
                    have HB2 := hide (Best.nearer hbm hpf hdd)
                    clear hbm hbp hBB hpf hdd hcb
                    generalize pgs (nd k).F = pf at *
                    obtain ⟨dk, hdk⟩ : ∃ dk, dk = c.D x k := ⟨_, rfl⟩
                    obtain ⟨db, hdb⟩ : ∃ db, db = c.D x b' := ⟨_, rfl⟩
                    rw [← hdk, ← hdb] at d7
                    rw [← hdk] at yk
                    rw [← hdb] at yb
                    clear hdk hdb
                    go_wp2_with fail
                    go_quiet (fail)
                    have B7 := hide (bdN (unhide B6) nq)
                    have X7 := hide ((unhide X6).b (bdN (Below.refl _ w6) nq))
                    have D7 := hide ((unhide D6).b (bdN (Below.refl _ w6) nq))
                    clear B6 X6 D6 y1 y2 yr yk yb
                    go_wp2_with fail
                    go_roundw
                    case rel => exact ⟨k + 1, (k : Int), by go_num, rfl, by omega, HB2, D7, B7, X7⟩
                    case measure => simp [RowKit.intOf]; omega
                  · have d7 : decide (c.D x k < c.D x b') = false := by simpa using hdd
                    have HB2 := hide (Best.farther hbk hbp hbm hdd)
                    clear hbm hbp hBB hpf hdd hcb
                    generalize pgs (nd k).F = pf at *
                    obtain ⟨dk, hdk⟩ : ∃ dk, dk = c.D x k := ⟨_, rfl⟩
                    obtain ⟨db, hdb⟩ : ∃ db, db = c.D x b' := ⟨_, rfl⟩
                    rw [← hdk, ← hdb] at d7
                    rw [← hdk] at yk
                    rw [← hdb] at yb
                    clear hdk hdb
                    go_wp2_with fail
                    go_quiet (fail)
                    have B7 := hide (bdN (unhide B6) nq)
                    have X7 := hide ((unhide X6).b (bdN (Below.refl _ w6) nq))
                    have D7 := hide ((unhide D6).b (bdN (Below.refl _ w6) nq))
                    clear B6 X6 D6 y1 y2 yr yk yb
                    go_wp2_with fail
                    go_roundw
                    case rel => exact ⟨k + 1, (b' : Int), by go_num, rfl, by omega, HB2, D7, B7, X7⟩
                    case measure => simp [RowKit.intOf]; omega
              · have d5 : decide (pgs (nd k).F > c.mn) = false := by simpa using hpf
                have HB2 := hide ((unhide hBB).no hpf)
                clear hBB hpf
                generalize pgs (nd k).F = pf at *
                go_wp2_with fail
                go_quiet (fail)
                have B7 := hide (bdN (unhide B6) nq)
                have X7 := hide ((unhide X6).b (bdN (Below.refl _ w6) nq))
                have D7 := hide ((unhide D6).b (bdN (Below.refl _ w6) nq))
                clear B6 X6 D6 y1 y2 yr yk
                go_wp2_with fail
                go_roundw
                case rel => exact ⟨k + 1, bb, by go_num, rfl, by omega, HB2, D7, B7, X7⟩
                case measure => simp [RowKit.intOf]; omega
            · have hkc : k = c.n := by omega
              have hnl : ¬ (k : Int) < c.n := by omega
              have HT := hide (ztake_any z c.mn c.lw c.hi c.n nb fm tm nd _ x 0 false wr e ((unhide HE).below (unhide hB)) (unhide hD) hk4)
              have hLm : Hid (∀ j, j ∈ nfr (c.D x) c.n 1001 ↔ j < c.n) := fun j => by
                rw [nfr_mem]
                constructor
                · intro h; exact h.1
                · intro h; have := (unhide HDB) x hxn j h; omega
              have hQ : Hid (∀ j, j < c.n → ((tkC 0 c.mn false (nd j) == 2) = true ↔ c.mn < pgs (nd j).F)) := fun j hj => by
                rw [← tk0_iff ((unhide HOK) j hj) hmn]; simp
              have hB' := hide (unhide hB)
              go_wp2_with fail
              refine (unhide HT).mono ?_
              rintro ev w6 hT
              clear HT
              rw [hkc] at hBB
              rcases unhide hBB with ⟨rfl, hno⟩ | ⟨b', rfl, hbk, hbp, hbm⟩
              · rcases hT with ⟨a, ha10, rfl, b6, hr⟩ | ⟨x', i, at', hx', hx'k, _, _, hf, hin, hat, rfl, D6, K6⟩
                · have ha : a = 6 ∨ a = 4 := by
                    rcases hr with ⟨_, hh⟩ | ⟨x2, _, _, _, _, _, haa⟩
                    · exfalso
                      rcases hh with hh | hh | hh
                      · exact hh (by omega)
                      · omega
                      · omega
                    · rw [haa]; split
                      · exact Or.inl rfl
                      · exact Or.inr rfl
                  have B6 := hide (ballo ((unhide hB).trans (b6.mono (unhide hB).size)) (.cells #[.int .i64 0, .int .i64 0, .int .i64 0] 60))
                  clear hr hno hD hB hX hBB y0 b6 hLm hQ hB'
                  go_upto_region 22 with (fail)
                  generalize w6.alloc (.cells #[.int .i64 0, .int .i64 0, .int .i64 0] 60) = W6 at *
                  rcases ha with rfl | rfl
                  · go_wp2_with fail
                    refine (coded_sent 6 (by omega) 7 (by omega) W6 e ((unhide HE).below (unhide B6))).mono ?_
                    rintro ev w8 ⟨rfl, b8⟩
                    have B8 := btr (unhide B6) b8
                    go_wp2
                    go_ret
                    exact ⟨rfl, B8⟩
                  · go_wp2_with fail
                    refine (coded_other 4 (by omega) 7 (by omega) W6 e ((unhide HE).below (unhide B6))).mono ?_
                    rintro ev w8 ⟨rfl, b8⟩
                    have B8 := hide (btr (unhide B6) b8)
                    go_wp2_with fail
                    refine (coded_sent 4 (by omega) 5 (by omega) w8 e ((unhide HE).below (unhide B8))).mono ?_
                    rintro ev w9 ⟨rfl, b9⟩
                    have B9 := btr (unhide B8) b9
                    go_wp2
                    go_ret
                    exact ⟨rfl, B9⟩
                · exfalso
                  have h1 := List.find?_some hf
                  exact hno i hin (((unhide hQ) i hin).1 h1)
              · have hfd : (nfr (c.D x) c.n 1001).find? (fun i => tkC 0 c.mn false (nd i) == 2) = some b' :=
                  near_find (nfr_lx _ _ _) (((unhide hLm) b').2 hbk) (((unhide hQ) b' hbk).2 hbp) (fun j hj hq' => hbm j (((unhide hLm) j).1 hj) (((unhide hQ) j (((unhide hLm) j).1 hj)).1 hq'))
                rcases hT with ⟨a, ha10, rfl, b6, hr⟩ | ⟨x', i, at', hx', hx'k, _, _, hf, hin, hat, rfl, D6, K6⟩
                · exfalso
                  rcases hr with ⟨_, hh⟩ | ⟨x2, hx2, _, _, _, hf2, _⟩
                  · rcases hh with hh | hh | hh
                    · exact hh (by omega)
                    · omega
                    · omega
                  · obtain rfl : x = x2 := by omega
                    rw [hfd] at hf2
                    cases hf2
                · obtain rfl : x = x' := by omega
                  rw [hfd] at hf
                  obtain rfl : b' = i := Option.some.inj hf
                  have hi' := (unhide HFR) b' hin
                  have B6 := hide (ballo ((unhide hB).trans (K6.below (N := w.heap.size) hi'.1 hi'.2 (unhide hB).size)) (.cells #[.int .i64 (b' : Int), .int .i64 at', .int .i64 0] 60))
                  have q0 := World.cell?_alloc_new w6 #[.int .i64 (b' : Int), .int .i64 at', .int .i64 0] 60 0
                  have d6 : decide ((b' : Int) < 0) = false := decide_eq_false (by omega)
                  have d8 : ((b' : Int) == (b' : Int)) = true := by simp
                  clear hf hfd hbm hbp hBB D6 K6 hat hD hB hX y0 hLm hQ hi' hB'
                  go_wp2
                  go_ret
                  exact ⟨rfl, unhide B6⟩
    · have hc : decide (node < 0) = true ∨ (decide (node < 0) = false ∧ decide ((c.n : Int) ≤ node) = true) := by
        by_cases c' : node < 0
        · exact Or.inl (by simpa using c')
        · exact Or.inr ⟨by simpa using c', by simp; omega⟩
      clear D4
      rcases hc with hc | ⟨hc, hc2⟩
      all_goals
        go_wp2
        go_ret
        exact ⟨rfl, G4⟩
  · obtain ⟨a, _, _, ha⟩ := Cf.is_err hi hi0 e
    have HN := znew_bad c p' q' pc' qc' w3 e ((unhide HE).below G3).three A3 hnw i hi hi0
    rw [ha] at HN
    have HN := hide HN
    unfold cfV at *
    clear A3
    go_wp2_with fail
    refine (unhide HN).mono ?_
    rintro ev w4 ⟨rfl, b4⟩
    go_wp2
    go_ret
    exact ⟨rfl, btr G3 b4⟩
end Dz
end Go.Proofs.YtealnnppoffmnaaGreatDoor
