/- Package zone's New, by contract. -/
import Derived.Test.YtcbmfakjfoggaaaGreatDoorG15
import Derived.Test.YtcbmfakjfoggaaaGreatDoorG20
import Derived.Test.YtcbmfakjfoggaaaGreatDoorG07
namespace Go.Proofs.YtcbmfakjfoggaaaGreatDoor
open Go.RowKit Go.Maps
namespace Bd
open Fr
set_option maxHeartbeats 4000000 in
theorem new_tag (N : Int) (w : World) (h1 : 1 ≤ N) (h2 : N ≤ 256) :
    Calls Tryz.prog 143 #[.int .i64 N] w fun ev w' => ∃ b fm tm, ev = .returned (.tuple #[ptr b, .nilIface]) ∧ Bud w' b fm tm N (cv 0 N) [] ∧ Tag w' b 327 ∧ w.heap.size ≤ fm ∧ w.heap.size ≤ tm ∧ Below w.heap.size w w' := by
  have HC := hide (fun w => cover_ok 0 N w (by omega) (by omega) (by omega))
  have HI := hide (cv_inv N (by omega))
  have hne := hide (cv_pos h1)
  have hlen : (cv 0 N).length ≤ 256 := by have := cv_length 0 N; omega
  have HM := hide (fun x (hx : x ∈ cv 0 N) => show 0 ≤ x.1 ∧ x.1 < 256 ∧ 0 ≤ x.2 ∧ x.2 ≤ 6 by
    have a1 := (unhide HI).inF hx
    have a2 := (unhide HI).oF x hx
    have a3 := pw_pos x.2
    unfold Okb at a2
    omega)
  have HS := hide (unhide HI).sF
  have d1 : decide (N < 1) = false := by simp; omega
  obtain ⟨L, hL⟩ : ∃ L, L = cv 0 N := ⟨_, rfl⟩
  rw [← hL] at HC hne hlen HM HS ⊢
  clear hL HI h1 h2
  have hmm := @run_makeMap Tryz.prog
  unfold ptr
  go_enter Tryz.func143, Tryz.ntmps143
  go_wp2_with fail
  refine (unhide HC _).mono ?_
  rintro ev w2 ⟨v, rfl, hrow, b2, _⟩
  obtain ⟨g, cap, rfl, hg, hcap, hcap2, hr⟩ := row_of hrow (unhide hne)
  have hgl := hr.lt
  have HR := hide hr
  have s2 := b2.size
  clear hr hrow HC
  unfold maxLen at hcap2
  go_wp2_with fail
  have M1 := ((mp_new w2).a (.map #[] 0)).a (.cells #[.int .i64 N, .map (some w2.heap.size), .map (some (w2.heap.size + 1))] 327)
  have M2 := (mp_new (w2.alloc (.map #[] 0))).a (.cells #[.int .i64 N, .map (some w2.heap.size), .map (some (w2.heap.size + 1))] 327)
  rw [show (w2.alloc (.map #[] 0)).heap.size = w2.heap.size + 1 by simp] at M2
  have e3 : ((w2.alloc (.map #[] 0)).alloc (.map #[] 0)).heap.size = w2.heap.size + 2 := by simp
  have BN : Hid (Bud (((w2.alloc (.map #[] 0)).alloc (.map #[] 0)).alloc (.cells #[.int .i64 N, .map (some w2.heap.size), .map (some (w2.heap.size + 1))] 327)) (w2.heap.size + 2) w2.heap.size (w2.heap.size + 1) N [] []) := by
    refine ⟨?_, ?_, ?_, M1, M2, by omega, by omega, by omega, by simp⟩
    · have q := World.cell?_alloc_new ((w2.alloc (.map #[] 0)).alloc (.map #[] 0)) #[.int .i64 N, .map (some w2.heap.size), .map (some (w2.heap.size + 1))] 327 0
      rw [e3] at q; exact q
    · have q := World.cell?_alloc_new ((w2.alloc (.map #[] 0)).alloc (.map #[] 0)) #[.int .i64 N, .map (some w2.heap.size), .map (some (w2.heap.size + 1))] 327 1
      rw [e3] at q; exact q
    · have q := World.cell?_alloc_new ((w2.alloc (.map #[] 0)).alloc (.map #[] 0)) #[.int .i64 N, .map (some w2.heap.size), .map (some (w2.heap.size + 1))] 327 2
      rw [e3] at q; exact q
  have F3 : Below w.heap.size w (((w2.alloc (.map #[] 0)).alloc (.map #[] 0)).alloc (.cells #[.int .i64 N, .map (some w2.heap.size), .map (some (w2.heap.size + 1))] 327)) := ballo (ballo (ballo b2 _) _) _
  have TG : Hid (Tag (((w2.alloc (.map #[] 0)).alloc (.map #[] 0)).alloc (.cells #[.int .i64 N, .map (some w2.heap.size), .map (some (w2.heap.size + 1))] 327)) (w2.heap.size + 2) 327) := by
    have q := tag_new ((w2.alloc (.map #[] 0)).alloc (.map #[] 0)) #[.int .i64 N, .map (some w2.heap.size), .map (some (w2.heap.size + 1))] 327
    rw [e3] at q; exact q
  have HR3 := hide ((((unhide HR).b (ballo (Below.refl _ _) (.map #[] 0))).b (ballo (Below.refl _ _) (.map #[] 0))).b (ballo (Below.refl _ _) (.cells #[.int .i64 N, .map (some w2.heap.size), .map (some (w2.heap.size + 1))] 327)))
  have s3 : (((w2.alloc (.map #[] 0)).alloc (.map #[] 0)).alloc (.cells #[.int .i64 N, .map (some w2.heap.size), .map (some (w2.heap.size + 1))] 327)).heap.size = w2.heap.size + 3 := by simp
  rw [show w2.heap.size + 1 + 1 = w2.heap.size + 2 by omega]
  clear HR M1 M2 e3 d1
  generalize ((w2.alloc (.map #[] 0)).alloc (.map #[] 0)).alloc (.cells #[.int .i64 N, .map (some w2.heap.size), .map (some (w2.heap.size + 1))] 327) = W3 at *
  have hfm : w.heap.size ≤ w2.heap.size := s2
  clear b2 s2
  generalize w2.heap.size = fm at *
  generalize hn : L.length = n at *
  go_loopw [8, 27] (fun _ s wr => ∃ j : Nat, s = .int .i64 j ∧ j ≤ n ∧ Hid (Bud wr (fm + 2) fm (fm + 1) N (L.take j) []) ∧ Hid (Kept fm fm W3 wr)) (fun _ s _ => n - (RowKit.intOf s).toNat)
  case atStart => exact ⟨0, rfl, Nat.zero_le _, BN, Kept.refl _ _ _⟩
  case round =>
    obtain ⟨j, rfl, hj, hB, hk⟩ := hrel
    by_cases hjn : j < n
    · have hjl : j < L.length := by omega
      have cc := (unhide HR3).c j hjl
      have k0 := cell_kept cc.1 (unhide BN).f (unhide BN).f (unhide hk)
      have k1 := cell_kept cc.2 (unhide BN).f (unhide BN).f (unhide hk)
      rw [getD_lt hjl] at k0 k1
      have hit := hide (ins_take (unhide HS) hjl)
      have hsm := (unhide HM) L[j] (List.getElem_mem hjl)
      generalize L[j] = x at *
      obtain ⟨x1, x2⟩ := x
      simp only at k0 k1 hsm
      have B2 := (unhide hB).a (blkO x1 x2)
      have F2 := (unhide hk).trans (kept_alloc _ _ _ (blkO x1 x2))
      have X2 := bx_new wr (x1, x2)
      clear cc hB hk
      go_wp2_with fail
      generalize wr.alloc (blkO x1 x2) = W4 at *
      generalize wr.heap.size = c at *
      have c1 := B2.c1
      have x0 := X2.c0
      have x3 := X2.c1
      simp only at x0 x3
      have HP := hide (put_ok (x1, x2) fm (L.take j) W4.drew B2.f.d hsm)
      have KC := hide (fun w1 (hb : Kept fm fm W4.drew w1) => (⟨cell_kept B2.c1 B2.f B2.f (kd hb), cell_kept X2.c0 B2.f B2.f (kd hb), cell_kept X2.c1 B2.f B2.f (kd hb)⟩ : w1.cell? ⟨fm + 2, 1, none⟩ = some (.map (some fm)) ∧ w1.cell? ⟨c, 0, none⟩ = some (.int .i64 x1) ∧ w1.cell? ⟨c, 1, none⟩ = some (.int .i64 x2)))
      go_region_held3 (fun w' => w'.cell? ⟨fm + 2, 1, none⟩ = some (.map (some fm)) ∧ w'.cell? ⟨c, 0, none⟩ = some (.int .i64 x1) ∧ w'.cell? ⟨c, 1, none⟩ = some (.int .i64 x2)) ((first | (go_keep; done) | (exact (unhide KC) _ (by assumption)))) ((go_at_call 196; refine (unhide HP).mono ?_; rintro ev w6 ⟨rfl, M6, k6⟩))
      rw [unhide hit] at M6
      have B6 := hide (B2.setF (kd k6) M6)
      have F6 := hide (F2.trans (kd k6))
      clear B2 F2 X2 c1 x0 x3 HP KC k6 M6 k0 k1
      go_wp2
      go_roundw
      case rel => exact ⟨j + 1, by go_num, by omega, B6, F6⟩
      case measure => simp [RowKit.intOf]; omega
    · have hjn2 : j = n := by omega
      subst hjn2
      have B6 := unhide hB
      rw [← hn, List.take_length] at B6
      have B6 := hide B6
      go_wp2
      go_ret2
      exact ⟨_, _, _, rfl, unhide B6, (unhide TG).blk ((unhide hk).block (fm + 2) (by omega) (by omega) (by omega)), hfm, by omega, F3.trans ((unhide hk).below hfm hfm (by omega))⟩
end Bd
namespace Dz
open Fr Bd Zn
/-- The box of a zone that is being made. -/
structure DB (w : World) (z : Nat) (mn lw hi : Int) (v3 v4 : Value) : Prop where
  c0 : w.cell? ⟨z, 0, none⟩ = some (.int .i64 mn)
  c1 : w.cell? ⟨z, 1, none⟩ = some (.int .i64 lw)
  c2 : w.cell? ⟨z, 2, none⟩ = some (.int .i64 hi)
  c3 : w.cell? ⟨z, 3, none⟩ = some v3
  c4 : w.cell? ⟨z, 4, none⟩ = some v4
  ff : ∀ o, w.frozen? ⟨z, o, none⟩ = false
  tg : Tag w z 241
theorem DB.b {w w' : World} {z : Nat} {mn lw hi : Int} {v3 v4 : Value} (h : DB w z mn lw hi v3 v4) (hb : Below w.heap.size w w') : DB w' z mn lw hi v3 v4 :=
  have hl := h.tg.lt
  ⟨(hb.cell (p := ⟨z, 0, none⟩) hl).trans h.c0, (hb.cell (p := ⟨z, 1, none⟩) hl).trans h.c1, (hb.cell (p := ⟨z, 2, none⟩) hl).trans h.c2, (hb.cell (p := ⟨z, 3, none⟩) hl).trans h.c3, (hb.cell (p := ⟨z, 4, none⟩) hl).trans h.c4, fun o => (hb.frozen (p := ⟨z, o, none⟩) hl).trans (h.ff o), h.tg.b hb⟩
theorem DB.bn {w w' : World} {z N : Nat} {mn lw hi : Int} {v3 v4 : Value} (h : DB w z mn lw hi v3 v4) (hb : Below N w w') (hN : z < N) : DB w' z mn lw hi v3 v4 :=
  ⟨(hb.cell (p := ⟨z, 0, none⟩) hN).trans h.c0, (hb.cell (p := ⟨z, 1, none⟩) hN).trans h.c1, (hb.cell (p := ⟨z, 2, none⟩) hN).trans h.c2, (hb.cell (p := ⟨z, 3, none⟩) hN).trans h.c3, (hb.cell (p := ⟨z, 4, none⟩) hN).trans h.c4, fun o => (hb.frozen (p := ⟨z, o, none⟩) hN).trans (h.ff o), h.tg.blk (hb.block z hN)⟩
theorem DB.p3 {w : World} {z : Nat} {mn lw hi : Int} {v3 v4 : Value} (h : DB w z mn lw hi v3 v4) (v : Value) : DB (w.setCell ⟨z, 3, none⟩ v) z mn lw hi v v4 :=
  ⟨(cso (by simp)).trans h.c0, (cso (by simp)).trans h.c1, (cso (by simp)).trans h.c2, css h.c3, (cso (by simp)).trans h.c4, fun o => by simp only [World.frozen?_setCell]; exact h.ff o, h.tg.set _ _⟩
theorem DB.p4 {w : World} {z : Nat} {mn lw hi : Int} {v3 v4 : Value} (h : DB w z mn lw hi v3 v4) (v : Value) : DB (w.setCell ⟨z, 4, none⟩ v) z mn lw hi v3 v :=
  ⟨(cso (by simp)).trans h.c0, (cso (by simp)).trans h.c1, (cso (by simp)).trans h.c2, (cso (by simp)).trans h.c3, css h.c4, fun o => by simp only [World.frozen?_setCell]; exact h.ff o, h.tg.set _ _⟩
theorem db_new (w : World) (mn lw hi : Int) : DB (w.alloc (.cells #[.int .i64 mn, .int .i64 lw, .int .i64 hi, .slice none 0 0, .slice none 0 0] 241)) w.heap.size mn lw hi (.slice none 0 0) (.slice none 0 0) :=
  ⟨by simp, by simp, by simp, by simp, by simp, fun o => by simp, tag_new _ _ _⟩
theorem bud_keep {w w' : World} {A b fm tm : Nat} {N : Int} {F T : List Bl} (h : Bud w b fm tm N F T) (tb : Tag w b 327) (hk : Kept A A w w') {t : TypeId} (ht : Tag w A t) (hne : t ≠ 327) : Bud w' b fm tm N F T ∧ Tag w' b 327 := by
  have q1 := tb.ne ht hne.symm
  have q2 := tag_map ht h.f
  have q3 := tag_map ht h.t
  exact ⟨h.blk hk.size (hk.block _ h.lt q1 q1) (hk.block _ h.f.lt q2 q2) (hk.block _ h.t.lt q3 q3), tb.keep hk q1⟩
theorem bud_grown {w w' : World} {b e size n : Nat} {v : Value} {xs : List Value} (U : w.ownsRow b e size v n xs) (q : w.grownBy w' v.ownBlock) (he : e ≠ 327) {c fm tm : Nat} {N : Int} {F T : List Bl} (h : Bud w c fm tm N F T) (tb : Tag w c 327) : Bud w' c fm tm N F T ∧ Tag w' c 327 := by
  rcases grown_own U q with hb | ⟨g, ht, _, hk⟩
  · exact ⟨h.b hb, tb.b hb⟩
  · exact bud_keep h tb hk ht he
theorem info24 : (Tryz.prog.info? 242).map (fun i => (i.zero, i.size, i.bytes)) = some (some (.pointer none), 1, 8) := by kernel_rfl
set_option maxHeartbeats 2000000 in
theorem znew_bad (c : Cf) (p q : Option Addr) (pc qc : Nat) (w : World) (e : Nat → Addr) (he : Errs3 w e) (h : At w c p q) (hwd : ¬ c.wide) (i : Int) (hi : c.is i) (hi0 : i ≠ 0) :
    Calls Tryz.prog 64 #[cfV c p pc q qc] w fun ev w' => ev = .returned (.tuple #[.pointer none, errC e i]) ∧ Below w.heap.size w w' := by
  have F1 := ballo (Below.refl w.heap.size w) (.cells #[.slice p c.n pc, .slice q c.m qc, .int .i64 c.mn, .int .i64 c.lw, .int .i64 c.hi] 127)
  have BX := box_new w c p q pc qc 127
  have HC := check_ok c p q pc qc _ e (he.below F1) (h.b F1) hwd
  have hi2 : ∃ a, errC e i = errV a := by
    rcases hi with ⟨rfl, _⟩ | ⟨rfl, _⟩ | ⟨h, _⟩
    · exact ⟨_, rfl⟩
    · exact ⟨_, rfl⟩
    · exact absurd h hi0
  obtain ⟨a, ha⟩ := hi2
  have HC := hide (HC.mono (fun ev w' ⟨j, hj, hev, hb⟩ => show ev = Ending.returned (errV a) ∧ Below _ _ w' from ⟨by rw [← ha, hev, Cf.is_one hj hi], hb⟩))
  rw [ha]
  clear h he hwd hi
  unfold cfV at *
  unfold errV at *
  have b0 := BX.c0
  have b1 := BX.c1
  have b2 := BX.c2
  have b3 := BX.c3
  have b4 := BX.c4
  clear BX
  go_enter Tryz.func64, Tryz.ntmps64
  go_upto_region 1 with (fail)
  generalize w.alloc (.cells #[.slice p c.n pc, .slice q c.m qc, .int .i64 c.mn, .int .i64 c.lw, .int .i64 c.hi] 127) = W at *
  go_wp2_with fail
  refine (unhide HC).mono ?_
  rintro ev w2 ⟨rfl, b5⟩
  have F2 := btr F1 b5
  go_wp2
  go_ret2
  exact ⟨rfl, F2⟩
/-- What New answers to a right config. -/
def NewR (c : Cf) (w : World) (ev : Ending) (w' : World) : Prop := ∃ z nb fm tm, ev = .returned (.tuple #[ptr z, .nilIface]) ∧ DZ w' z c.mn c.lw c.hi c.n nb fm tm (nd0 c.P) (fun i => nfr (c.D i) c.n 1001) ∧ (∀ i, i < c.n → w.heap.size ≤ fm i ∧ w.heap.size ≤ tm i) ∧ Below w.heap.size w w'
set_option maxRecDepth 100000 in
set_option maxHeartbeats 16000000 in
theorem znew_ok (c : Cf) (p q : Option Addr) (pc qc : Nat) (w : World) (e : Nat → Addr) (he : Errs3 w e) (h : At w c p q) (hwd : ¬ c.wide) (hi : c.is 0) :
    Calls Tryz.prog 64 #[cfV c p pc q qc] w fun ev w' => NewR c w ev w' := by
  have F1 := ballo (Below.refl w.heap.size w) (.cells #[.slice p c.n pc, .slice q c.m qc, .int .i64 c.mn, .int .i64 c.lw, .int .i64 c.hi] 127)
  have BX := box_new w c p q pc qc 127
  have HC := check_ok c p q pc qc _ e (he.below F1) (h.b F1) hwd
  have HC := hide (HC.mono (fun ev w' ⟨j, hj, hev, hb⟩ => show ev = Ending.returned .nilIface ∧ Below _ _ w' from ⟨by rw [hev, Cf.is_one hj hi]; rfl, hb⟩))
  have A1 := h.b F1
  obtain ⟨hb2, hsh, hb3⟩ : ¬ c.bad2 ∧ c.shp ∧ ¬ c.bad3 := by
    rcases hi with ⟨h, _⟩ | ⟨h, _⟩ | ⟨_, h⟩
    · exact absurd h (by decide)
    · exact absurd h (by decide)
    · exact h
  have hn : 1 ≤ c.n := Nat.le_of_not_lt fun hh => hb2 (Or.inl (by omega))
  have hn4 : c.n ≤ 4 := Nat.le_of_not_lt fun hh => hb2 (Or.inr (Or.inl (by omega)))
  have hP : ∀ i, i < c.n → 1 ≤ c.P i ∧ c.P i ≤ 256 := fun i hi => ⟨Int.not_lt.1 fun hh => hb2 (Or.inr (Or.inr (Or.inl ⟨i, hi, Or.inl hh⟩))), Int.not_lt.1 fun hh => hb2 (Or.inr (Or.inr (Or.inl ⟨i, hi, Or.inr hh⟩)))⟩
  have hm : c.m = c.n := hsh.1
  have hM : ∀ i, i < c.m → c.M i = c.n := hsh.2
  have hD : ∀ i, i < c.n → ∀ k, k < c.n → 0 ≤ c.D i k ∧ c.D i k ≤ 1000 := fun i hi k hk => ⟨Int.not_lt.1 fun hh => hb2 (Or.inr (Or.inr (Or.inr (Or.inl ⟨i, by omega, k, by rw [hM i (by omega)]; exact hk, Or.inl hh⟩)))), Int.not_lt.1 fun hh => hb2 (Or.inr (Or.inr (Or.inr (Or.inl ⟨i, by omega, k, by rw [hM i (by omega)]; exact hk, Or.inr hh⟩))))⟩
  clear h he hwd hi hb2 hsh hb3
  unfold cfV at *
  obtain ⟨n, P, m, M, D, mn, lw, hi⟩ := c
  simp only at *
  obtain rfl : n = m := hm.symm
  have RN : Hid (∀ z nb fm tm w', DZ w' z mn lw hi n nb fm tm (nd0 P) (fun i => nfr (D i) n 1001) → (∀ i, i < n → w.heap.size ≤ fm i ∧ w.heap.size ≤ tm i) → Below w.heap.size w w' → NewR ⟨n, P, n, M, D, mn, lw, hi⟩ w (.returned (.tuple #[.pointer (some ⟨z, 0, none⟩), .nilIface])) w') := fun z nb fm tm w' h1 h2 h3 => ⟨z, nb, fm, tm, rfl, h1, h2, h3⟩
  generalize NewR ⟨n, P, n, M, D, mn, lw, hi⟩ w = NR at *
  have HNR := hide (fun w1 x p' cc (h : Nums w1 p' n (D x)) (hx : x < n) => nearest_ok (D x) n cc p' w1 hn hn4 h (hD x hx))
  obtain ⟨i0, hi0, hz0, hz1, hz2⟩ := info_parts info24
  have HI := hide hi0
  have HZ := hide hz0
  have HZ1 := hide hz1
  have HZ2 := hide hz2
  obtain ⟨i1, hi1, hy0, hy1, hy2⟩ := info_parts info22
  have HJ := hide hi1
  have HY := hide hy0
  have HY1 := hide hy1
  have HY2 := hide hy2
  clear hi0 hz0 hz1 hz2 hi1 hy0 hy1 hy2
  have b0 := BX.c0
  have b1 := BX.c1
  have b2 := BX.c2
  have b3 := BX.c3
  have b4 := BX.c4
  have hbx := BX.lt
  simp only at b0 b1 b2 b3 b4
  clear BX
  have hq : ∀ x : Nat, ptr x = .pointer (some ⟨x, 0, none⟩) := fun _ => rfl
  go_enter Tryz.func64, Tryz.ntmps64
  go_upto_region 1 with (fail)
  generalize w.alloc (.cells #[.slice p n pc, .slice q n qc, .int .i64 mn, .int .i64 lw, .int .i64 hi] 127) = W at *
  go_wp2_with fail
  refine (unhide HC).mono ?_
  rintro ev w2 ⟨rfl, b5⟩
  have F2 := hide (btr F1 b5)
  have A2 := A1.b b5
  have x0 := (b5.cell (p := ⟨w.heap.size, 0, none⟩) hbx).trans b0
  have x1 := (b5.cell (p := ⟨w.heap.size, 1, none⟩) hbx).trans b1
  have x2 := (b5.cell (p := ⟨w.heap.size, 2, none⟩) hbx).trans b2
  have x3 := (b5.cell (p := ⟨w.heap.size, 3, none⟩) hbx).trans b3
  have x4 := (b5.cell (p := ⟨w.heap.size, 4, none⟩) hbx).trans b4
  have hbx2 := Nat.lt_of_lt_of_le hbx b5.size
  clear A1 b0 b1 b2 b3 b4 b5 HC F1 hbx
  have Z0 := hide (db_new w2 mn lw hi)
  have F3 := ballo (Below.refl w2.heap.size w2) (.cells #[.int .i64 mn, .int .i64 lw, .int .i64 hi, .slice none 0 0, .slice none 0 0] 241)
  have s3 : (w2.alloc (.cells #[.int .i64 mn, .int .i64 lw, .int .i64 hi, .slice none 0 0, .slice none 0 0] 241)).heap.size = w2.heap.size + 1 := by simp
  go_upto_region 5 with (fail)
  generalize w2.alloc (.cells #[.int .i64 mn, .int .i64 lw, .int .i64 hi, .slice none 0 0, .slice none 0 0] 241) = W0 at *
  have y0 := (F3.cell (p := ⟨w.heap.size, 0, none⟩) hbx2).trans x0
  go_wp2_with fail
  have KB := hide (fun wr (hk : Kept w2.heap.size w2.heap.size W0 wr) => F3.trans (hk.below (N := w2.heap.size) (Nat.le_refl _) (Nat.le_refl _) F3.size))
  have A2 := hide A2
  have hc5 := s3
  generalize hz : w2.heap.size = z at *
  go_loopw [22] (fun a wr => ∃ (i : Nat) (pn pf : Option Addr) (cn cf : Nat) (rows : List Value) (nb fm tm : Nat → Nat), a = .int .i64 i ∧ i ≤ n ∧ Hid (DB wr z mn lw hi (.slice pn i cn) (.slice pf i cf)) ∧ Hid (wr.ownsRow W0.heap.size 242 1 (.slice pn i cn) i (ptrs i nb)) ∧ Hid (wr.ownsRow W0.heap.size 38 1 (.slice pf i cf) i rows) ∧ Hid (∀ j, j < i → ∃ h d, rows[j]? = some (.slice (some ⟨h, 0, none⟩) n d) ∧ wr.ownsRow 0 3 1 (.slice (some ⟨h, 0, none⟩) n d) n (ivs (nfr (D j) n 1001))) ∧ Hid (∀ j, j < i → (Bud wr (nb j) (fm j) (tm j) (nd0 P j).N (nd0 P j).F (nd0 P j).T ∧ Tag wr (nb j) 327) ∧ (z ≤ fm j ∧ z ≤ tm j) ∧ ∀ j', j' < j → fm j' < fm j ∧ tm j' < tm j ∧ fm j' < tm j ∧ tm j' < fm j) ∧ Hid (Kept z z W0 wr)) (fun a _ => n - (RowKit.intOf a).toNat)
  case atStart => exact ⟨0, none, none, 0, 0, [], fun _ => 0, fun _ => 0, fun _ => 0, rfl, Nat.zero_le _, Z0, World.ownsRow_nil _ _ _ _, World.ownsRow_nil _ _ _ _, fun j hj => by omega, fun j hj => by omega, Kept.refl _ _ _⟩
  case round =>
    clear y0
    obtain ⟨i, pn, pf, cn, cf, rows, nb, fm, tm, rfl, hi', hZB, hU, hV, hR, hB, hK⟩ := hrel
    have hge : (0 : Int) ≤ i := by omega
    have HB := hide ((unhide KB) _ (unhide hK))
    have y0 := ((unhide HB).cell (p := ⟨w.heap.size, 0, none⟩) hbx2).trans x0
    by_cases hin : i < n
    · have hlt : (i : Int) < n := by omega
      obtain ⟨blk, off, rfl, hbl, hc⟩ := (unhide A2).ps i hin
      rw [hz] at hbl
      simp only at hc
      have hc2 := ((unhide HB).cell (p := ⟨blk, off + i, none⟩) hbl).trans hc
      have hPi := hP i hin
      have HNB := hide (new_tag (P i) wr hPi.1 hPi.2)
      have hsz := (unhide hK).size
      have HNV : Hid (nd0 P i = ⟨P i, cv 0 (P i), []⟩) := rfl
      clear hPi hc
      generalize hpv : P i = pv at *
      clear y0 
      go_wp2_with fail
      refine (unhide HNB).mono ?_
      rintro ev w4 ⟨b, f', t', rfl, B2, tb2, hf2, ht2, q2⟩
      rw [hq b]
      have C4 : Below wr.heap.size wr w4 := q2
      have U4 := own_b (unhide hU) C4
      have z43 := ((unhide hZB).b C4).c3
      have z4a := (((unhide hZB).b C4).b (ballo (Below.refl _ _) (.cells #[.pointer (some ⟨b, 0, none⟩)] 242))).c3
      have hzB : z < W0.heap.size := by omega
      have hs4 := C4.size
      clear HNB
      go_wp2_with (at_builtin; refine wpList_append_own _ rfl (.tmp 39) (.tmp 41) 239 rfl W0.heap.size 242 i0 (.pointer none) 1 8 Tryz.underlying239 (unhide HI) (unhide HZ) (unhide HZ1) (unhide HZ2) rfl (by decide) _ _ _ rfl (U4.alloc _) ⟨w4.heap.size, 0, none⟩ 1 1 [.pointer (some ⟨b, 0, none⟩)] rfl rfl (by intro j u hj; match j, hj with | 0, hj => simp at hj; subst hj; simp [Addr.add]) (by intro u hu; simp at hu; subst hu; rfl) (by unfold maxLen; omega) (by omega) (by simp; omega) ?_; intro v5 w5 o5 q5 n5; obtain ⟨g5, c5, hv5⟩ := own_some o5 (by omega); subst hv5; have B5 : Below W0.heap.size wr w5 := ((C4.mono hsz).alloc (Nat.le_trans hsz hs4) _).grown q5 (by simp; omega) (own_row U4); have Z5 := (unhide hZB).bn B5 hzB; have zc5 := Z5.c3; have zf5 := Z5.ff 3)
      have hz5 := Z5.tg
      have ks := kept_set (g := z) w5 3 (.slice (some ⟨g5, 0, none⟩) (i + 1) c5)
      have hOw : ∀ (e sz : Nat) (v : Value) (m : Nat) (bs : Nat) (xs' : List Value), e ≠ 242 → e ≠ 241 → wr.ownsRow bs e sz v m xs' → (w5.setCell ⟨z, 3, none⟩ (.slice (some ⟨g5, 0, none⟩) (i + 1) c5)).ownsRow bs e sz v m xs' := fun e sz v m bs xs' h1 h2 h =>
        own_keep (((own_b h C4).alloc _).kept q5 (own_other (own_b h C4) U4 h1)) ks hz5 h2.symm
      have hRb : ∀ (c' f t : Nat) (d : Nd), Bud w4 c' f t d.N d.F d.T → Tag w4 c' 327 → Bud (w5.setCell ⟨z, 3, none⟩ (.slice (some ⟨g5, 0, none⟩) (i + 1) c5)) c' f t d.N d.F d.T ∧ Tag (w5.setCell ⟨z, 3, none⟩ (.slice (some ⟨g5, 0, none⟩) (i + 1) c5)) c' 327 := fun c' f t d h ht => by
        have h1 := bud_grown (U4.alloc _) q5 (by decide) (h.a _) (ht.b (ballo (Below.refl _ _) _))
        exact bud_keep h1.1 h1.2 ks hz5 (by decide)
      have ZV := hide (Z5.p3 (.slice (some ⟨g5, 0, none⟩) (i + 1) c5))
      have UV : Hid ((w5.setCell ⟨z, 3, none⟩ (.slice (some ⟨g5, 0, none⟩) (i + 1) c5)).ownsRow W0.heap.size 242 1 (.slice (some ⟨g5, 0, none⟩) (i + 1) c5) (i + 1) (ptrs (i + 1) (up nb i b))) := by
        show World.ownsRow _ _ _ _ _ _ _
        rw [ptrs_snoc]
        exact own_set o5 hzB _ _
      have VV := hide (hOw 38 1 _ _ _ _ (by decide) (by decide) (unhide hV))
      have RV : Hid (∀ j, j < i → ∃ h d, rows[j]? = some (.slice (some ⟨h, 0, none⟩) n d) ∧ (w5.setCell ⟨z, 3, none⟩ (.slice (some ⟨g5, 0, none⟩) (i + 1) c5)).ownsRow 0 3 1 (.slice (some ⟨h, 0, none⟩) n d) n (ivs (nfr (D j) n 1001))) := fun j hj => by
        obtain ⟨h, d, e1, e2⟩ := (unhide hR) j hj
        exact ⟨h, d, e1, hOw 3 1 _ _ _ _ (by decide) (by decide) e2⟩
      have BV : Hid (∀ j, j < i + 1 → (Bud (w5.setCell ⟨z, 3, none⟩ (.slice (some ⟨g5, 0, none⟩) (i + 1) c5)) (up nb i b j) (up fm i f' j) (up tm i t' j) (nd0 P j).N (nd0 P j).F (nd0 P j).T ∧ Tag (w5.setCell ⟨z, 3, none⟩ (.slice (some ⟨g5, 0, none⟩) (i + 1) c5)) (up nb i b j) 327) ∧ (z ≤ up fm i f' j ∧ z ≤ up tm i t' j) ∧ ∀ j', j' < j → up fm i f' j' < up fm i f' j ∧ up tm i t' j' < up tm i t' j ∧ up fm i f' j' < up tm i t' j ∧ up tm i t' j' < up fm i f' j) := fun j hj => by
        rcases Nat.lt_or_ge j i with h' | h'
        · obtain ⟨⟨e1, e2⟩, e4, e3⟩ := (unhide hB) j h'
          refine ⟨?_, ?_, fun j' hj' => ?_⟩
          · rw [up_ne _ _ (by omega), up_ne _ _ (by omega), up_ne _ _ (by omega)]; exact hRb _ _ _ (nd0 P j) (e1.b C4) (e2.b C4)
          · rw [up_ne _ _ (by omega), up_ne _ _ (by omega)]; exact e4
          · rw [up_ne _ _ (by omega), up_ne _ _ (by omega), up_ne _ _ (by omega), up_ne _ _ (by omega)]; exact e3 j' hj'
        · obtain rfl : j = i := by omega
          refine ⟨?_, by rw [up_at, up_at]; omega, fun j' hj' => ?_⟩
          · rw [up_at, up_at, up_at]
            exact hRb _ _ _ (nd0 P j) (by rw [unhide HNV]; exact B2) tb2
          · rw [up_at, up_at, up_ne _ _ (by omega), up_ne _ _ (by omega)]
            have h1 := ((unhide hB) j' hj').1.1
            have h2 := h1.f.lt
            have h3 := h1.t.lt
            omega
      have KV := hide ((kept_low (unhide hK) B5 (Nat.le_refl _)).trans ks)
      have hrl : rows.length = i := by have := (unhide hV).1; omega
      clear hOw hRb o5 q5 n5 B5 Z5 zc5 zf5 U4 z43 z4a C4 q2 ks hz5 hZB hU hV hR hB hK HB B2 tb2 hc2 hf2 ht2 HNV hpv
      have HBV := hide ((unhide KB) _ (unhide KV))
      have e1 := ((unhide HBV).cell (p := ⟨w.heap.size, 1, none⟩) hbx2).trans x1
      obtain ⟨blk2, off2, pr, cc, hqq, hbl2, hcr, hnm, _⟩ := (unhide A2).rs i hin
      subst hqq
      rw [hz] at hbl2
      simp only [hM i hin] at hcr hnm
      have e2 := ((unhide HBV).cell (p := ⟨blk2, off2 + i, none⟩) hbl2).trans hcr
      have hnmV := hide (hnm.b (by rw [hz]; exact unhide HBV))
      have zV4 := (unhide ZV).c4
      have zfV := (unhide ZV).ff 4
      have hszV := (unhide KV).size
      have tk2 : True := trivial
      clear hcr hnm
      generalize w5.setCell ⟨z, 3, none⟩ (.slice (some ⟨g5, 0, none⟩) (i + 1) c5) = V at *
      go_wp2_with fail
      first
      | (go_region_law (first
        | (have _t := tk2; go_simp; go_at_call 144; refine ((unhide HNR) V.drew i pr cc ((unhide hnmV).b (drw V)) hin).mono ?_; rintro ev w7 ⟨g7, c7, rfl, o7, q7⟩; have C7 : Below V.heap.size V w7 := bd q7; have V7 := own_b (unhide VV) C7; have Z7 := (unhide ZV).b C7; have z74 := Z7.c4; have z7a := (Z7.b (ballo (Below.refl _ _) (.cells #[.slice (some ⟨g7, 0, none⟩) n c7] 38))).c4; clear tk2)
        | (refine step_append_lies _ rfl (.tmp 49) (.tmp 56) 118 rfl W0.heap.size 38 i1 (.slice none 0 0) 1 24 Tryz.underlying118 (unhide HJ) (unhide HY) (unhide HY1) (unhide HY2) rfl (by decide) (.slice pf i cf) i rows (by simp [Act.eval]) (V7.alloc _) ⟨w7.heap.size, 0, none⟩ 1 1 [.slice (some ⟨g7, 0, none⟩) n c7] (by simp [Act.eval]) rfl (by intro j u hj; match j, hj with | 0, hj => simp at hj; subst hj; simp [Addr.add]) (by intro u hu; simp at hu; subst hu; rfl) (by omega) (by unfold maxLen; omega) (by omega) (by have := C7.size; simp; omega) _ rfl ?_; intro g6 c6 w6 o6 q6 _ _; have B6 : Below W0.heap.size V w6 := ((C7.mono hszV).alloc (Nat.le_trans hszV C7.size) _).grown q6 (by have := C7.size; simp; omega) (own_row V7); have Z6 := (unhide ZV).bn B6 hzB; have zc6 := Z6.c4; have zf66 := Z6.ff 4)))
      | skip
      all_goals
        have hz6 := Z6.tg
        have ks := kept_set (g := z) w6 4 (.slice (some ⟨g6, 0, none⟩) (i + 1) c6)
        have hOw : ∀ (e sz : Nat) (v : Value) (m : Nat) (bs : Nat) (xs' : List Value), e ≠ 38 → e ≠ 241 → w7.ownsRow bs e sz v m xs' → (w6.setCell ⟨z, 4, none⟩ (.slice (some ⟨g6, 0, none⟩) (i + 1) c6)).ownsRow bs e sz v m xs' := fun e sz v m bs xs' h1 h2 h =>
          own_keep ((h.alloc _).kept q6 (own_other h V7 h1)) ks hz6 h2.symm
        have hRb : ∀ (c' f t : Nat) (d : Nd), Bud V c' f t d.N d.F d.T → Tag V c' 327 → Bud (w6.setCell ⟨z, 4, none⟩ (.slice (some ⟨g6, 0, none⟩) (i + 1) c6)) c' f t d.N d.F d.T ∧ Tag (w6.setCell ⟨z, 4, none⟩ (.slice (some ⟨g6, 0, none⟩) (i + 1) c6)) c' 327 := fun c' f t d h ht => by
          have h1 := bud_grown (V7.alloc _) q6 (by decide) ((h.b C7).a _) ((ht.b C7).b (ballo (Below.refl _ _) _))
          exact bud_keep h1.1 h1.2 ks hz6 (by decide)
        have ZF := hide (Z6.p4 (.slice (some ⟨g6, 0, none⟩) (i + 1) c6))
        have UF := hide (hOw 242 1 _ _ _ _ (by decide) (by decide) (own_b (unhide UV) C7))
        have VF := hide (own_set o6 hzB 4 (.slice (some ⟨g6, 0, none⟩) (i + 1) c6))
        have RF : Hid (∀ j, j < i + 1 → ∃ h d, (rows ++ [.slice (some ⟨g7, 0, none⟩) n c7])[j]? = some (.slice (some ⟨h, 0, none⟩) n d) ∧ (w6.setCell ⟨z, 4, none⟩ (.slice (some ⟨g6, 0, none⟩) (i + 1) c6)).ownsRow 0 3 1 (.slice (some ⟨h, 0, none⟩) n d) n (ivs (nfr (D j) n 1001))) := fun j hj => by
          rcases Nat.lt_or_ge j i with h' | h'
          · obtain ⟨h, d, e1, e2⟩ := (unhide RV) j h'
            exact ⟨h, d, by rw [List.getElem?_append_left (by omega)]; exact e1, hOw 3 1 _ _ _ _ (by decide) (by decide) (own_b e2 C7)⟩
          · obtain rfl : j = i := by omega
            exact ⟨g7, c7, by rw [List.getElem?_append_right (by omega)]; simp [hrl], hOw 3 1 _ _ _ _ (by decide) (by decide) (own_less o7 (Nat.zero_le _))⟩
        have BF : Hid (∀ j, j < i + 1 → (Bud (w6.setCell ⟨z, 4, none⟩ (.slice (some ⟨g6, 0, none⟩) (i + 1) c6)) (up nb i b j) (up fm i f' j) (up tm i t' j) (nd0 P j).N (nd0 P j).F (nd0 P j).T ∧ Tag (w6.setCell ⟨z, 4, none⟩ (.slice (some ⟨g6, 0, none⟩) (i + 1) c6)) (up nb i b j) 327) ∧ (z ≤ up fm i f' j ∧ z ≤ up tm i t' j) ∧ ∀ j', j' < j → up fm i f' j' < up fm i f' j ∧ up tm i t' j' < up tm i t' j ∧ up fm i f' j' < up tm i t' j ∧ up tm i t' j' < up fm i f' j) := fun j hj => by
          obtain ⟨⟨e1, e2⟩, e3⟩ := (unhide BV) j hj
          exact ⟨hRb _ _ _ (nd0 P j) e1 e2, e3⟩
        have KF := hide ((kept_low (unhide KV) B6 (Nat.le_refl _)).trans ks)
        clear hOw hRb o6 q6 B6 Z6 zc6 zf66 V7 Z7 z74 z7a C7 o7 q7 ks hz6 UV VV RV BV KV ZV e1 e2 zV4 zfV HBV hnmV
        go_wp2
        go_roundw
        case rel => exact ⟨i + 1, some ⟨g5, 0, none⟩, some ⟨g6, 0, none⟩, c5, c6, rows ++ [.slice (some ⟨g7, 0, none⟩) n c7], up nb i b, up fm i f', up tm i t', by go_num, by omega, ZF, UF, VF, RF, BF, KF⟩
        case measure => simp [RowKit.intOf]; omega
    · have hlt : ¬ (i : Int) < n := by omega
      obtain rfl : n = i := by omega
      obtain ⟨gn, cn', hvn⟩ := own_some (unhide hU) (by omega)
      obtain ⟨gf, cf', hvf⟩ := own_some (unhide hV) (by omega)
      simp only [Value.slice.injEq, true_and] at hvn hvf
      obtain ⟨rfl, rfl⟩ := hvn
      obtain ⟨rfl, rfl⟩ := hvf
      have DZF : Hid (∃ nb fm tm, DZ wr z mn lw hi n nb fm tm (nd0 P) (fun i => nfr (D i) n 1001) ∧ ∀ i, i < n → w.heap.size ≤ fm i ∧ w.heap.size ≤ tm i) := by
        have hwz : w.heap.size ≤ z := by have := (unhide F2).size; omega
        refine ⟨nb, fm, tm, ⟨(unhide hZB).c0, (unhide hZB).c1, (unhide hZB).c2, ⟨gn, cn, (unhide hZB).c3, own_less (unhide hU) (Nat.zero_le _)⟩, ⟨gf, cf, rows, (unhide hZB).c4, own_less (unhide hV) (Nat.zero_le _), unhide hR⟩, (unhide hZB).tg.lt, fun j hj => ((unhide hB) j hj).1.1, fun j hj => nd0_ok (hP j hj).1 (hP j hj).2, fun j j' hj hj' hjj => ?_, fun j hj => nfr_good (hD j hj), (unhide hZB).tg, fun j hj => ((unhide hB) j hj).1.2⟩, fun j hj => by have := ((unhide hB) j hj).2.1; omega⟩
        rcases Nat.lt_or_gt_of_ne hjj with h' | h'
        · have := ((unhide hB) j' hj').2.2 j h'; omega
        · have := ((unhide hB) j hj).2.2 j' h'; omega
      have FF := hide ((unhide F2).trans ((show Below w2.heap.size w2 wr by rw [hz]; exact unhide HB).mono (unhide F2).size))
      clear hZB hU hV hR hB hK HB
      go_wp2
      obtain ⟨nb, fm, tm, hD, hfr⟩ := unhide DZF
      exact (unhide RN) z nb fm tm _ hD hfr (unhide FF)
end Dz
end Go.Proofs.YtcbmfakjfoggaaaGreatDoor
