/- The laws' depot of one node, and the document's answer's · The closed fact about pools · Who calls grows a row of its own beside a pool. -/
import Derived.Test.YtcbmfakjfoggaaaGreatDoorG34
import Derived.Test.YtcbmfakjfoggaaaGreatDoorG42
import Derived.Test.YtcbmfakjfoggaaaGreatDoorG15
import Derived.Test.YtcbmfakjfoggaaaGreatDoorG14
import Derived.Test.YtcbmfakjfoggaaaGreatDoorG08
import Derived.Test.YtcbmfakjfoggaaaGreatDoorG04
import Derived.Test.YtcbmfakjfoggaaaGreatDoorG06
import Derived.Deep.DrawnRows
import Derived.BigQuiet
import Derived.Deep.RegionHeld3
import Derived.Test.YtcbmfakjfoggaaaGreatDoorG13
import Derived.Test.YtcbmfakjfoggaaaGreatDoorG40
namespace Go.Proofs.YtcbmfakjfoggaaaGreatDoor
open Go.RowKit Go.Maps
namespace Pl
open Fr Bd Zn Dz Sb Mg Rd
/-- The document's answer's depot's fixed parts. -/
structure Mc where
  rc : Nat
  rz : Nat
  rd : Nat
  hb : Nat
/-- What turns there. -/
structure Ms where
  ss : List Sl
  nd : Nat → Nd
  H : List (List Bl × List Bl)
  P : List (List Bl)
/-- Both depots in memory. -/
def QK (C : Dc) (M : Mc) (U O : Nat → Prop) (X : Nat → Option Obj) (S : Ds) (R : Ms) (w : World) : Prop := QD C.w0 C.N0 X C.c C.z C.d C.g M.rc M.rz M.rd M.hb C.sz C.m C.mn C.lw C.hi C.k C.nb C.fm C.tm C.fr U O S.Q S.ss S.nd S.ws S.pl S.ct R.ss R.nd R.H R.P w
/-- What the document's answer has where both have the same. -/
def Ds.ms (S : Ds) : Ms := ⟨S.ss, S.nd, HH S.ct S.ws, PP S.ct S.pl⟩
/-- The laws' config. -/
def dpC (N mn : Int) : Cf := ⟨1, fun _ => N, 1, fun _ => 1, fun _ _ => 0, mn, mn, mn⟩
theorem dpC_wide (N mn : Int) : ¬ (dpC N mn).wide := by
  unfold Cf.wide dpC
  simp only
  rintro (h | h | ⟨i, hi, h⟩) <;> omega
theorem dpC_is {N mn : Int} (h : 1 ≤ N ∧ N ≤ 256 ∧ 0 ≤ mn) : (dpC N mn).is 0 := by
  have hs : (dpC N mn).shp := ⟨rfl, fun i _ => rfl⟩
  refine Or.inr (Or.inr ⟨rfl, ?_, hs, ?_⟩)
  · unfold Cf.bad2 dpC
    simp only
    rintro (h | h | ⟨i, hi, h⟩ | ⟨i, hi, k, hk, h⟩ | h | h | h) <;> omega
  · unfold Cf.bad3 dpC
    simp only
    rintro ⟨i, hi, k, hk, hne, h⟩
    omega
theorem dpC_not {N mn : Int} {i : Int} (h : (dpC N mn).is i) (hn : ¬ (1 ≤ N ∧ N ≤ 256 ∧ 0 ≤ mn)) : 0 < i := by
  rcases h with ⟨rfl, _⟩ | ⟨rfl, _⟩ | ⟨_, h, _⟩
  · omega
  · omega
  · exfalso
    apply h
    unfold Cf.bad2 dpC
    simp only
    by_cases h1 : N < 1 ∨ 256 < N
    · exact Or.inr (Or.inr (Or.inl ⟨0, by omega, h1⟩))
    · right; right; right; right; left; omega
/-- What is so of such a depot at the beginning. -/
structure Dnew (N mn sz : Int) (nw : Nat) (w0 : World) (C : Dc) (S : Ds) : Prop where
  hw : C.w0 = w0
  hN : C.w0.heap.size ≤ C.N0
  hk : C.k = 1
  hmn : C.mn = mn
  hsz : C.sz = sz
  hm : (C.m : Int) = 64 / sz
  hfr : C.fr 0 = [0]
  hss : S.ss = []
  hpl : S.pl = []
  hct : S.ct = fun _ => []
  hws : S.ws.length = nw
  hQ : S.Q = 0
  hfi : Fill N.toNat C.m (S.nd 0) [] 0
def dgood (N mn sz nw : Int) : Prop := (1 ≤ N ∧ N ≤ 256 ∧ 0 ≤ mn) ∧ (1 ≤ sz ∧ sz ≤ 64) ∧ 1 ≤ nw ∧ nw ≤ 4
set_option maxRecDepth 100000 in
set_option maxHeartbeats 16000000 in
theorem depot_ok (N mn sz nw : Int) (w : World) (e : Nat → Addr) (he : Errs w e) (_hmx : mn ≤ 9223372036854775807) :
    Calls Tryz.prog 13 #[.int .i64 N, .int .i64 mn, .int .i64 sz, .int .i64 nw] w fun ev w' => (¬ dgood N mn sz nw ∧ ev = .returned (.tuple #[.pointer none, .pointer none, .bool false]) ∧ Below w.heap.size w w') ∨
      (dgood N mn sz nw ∧ ∃ C M S, ev = .returned (.tuple #[.pointer (some ⟨C.d, 0, none⟩), .pointer (some ⟨M.rd, 0, none⟩), .bool true]) ∧ Dnew N mn sz nw.toNat w C S ∧ QK C M (fun _ => False) (fun _ => False) (fun _ => none) S S.ms w') := by
  have HE := hide he
  clear he
  obtain ⟨m0, m1, m2, m3, m4, m5⟩ := one_mem w _ _ _ _ #[.int .i64 N] #[.int .i64 0] #[.slice (some ⟨w.heap.size + 1, 0, none⟩) 1 1] #[.slice (some ⟨w.heap.size, 0, none⟩) 1 1, .slice (some ⟨w.heap.size + 1 + 1, 0, none⟩) 1 1, .int .i64 mn, .int .i64 mn, .int .i64 mn] 3 3 38 122 rfl rfl rfl rfl
  have HA : Hid (At ((((w.alloc (.cells #[.int .i64 N] 3)).alloc (.cells #[.int .i64 0] 3)).alloc (.cells #[.slice (some ⟨w.heap.size + 1, 0, none⟩) 1 1] 38)).alloc (.cells #[.slice (some ⟨w.heap.size, 0, none⟩) 1 1, .slice (some ⟨w.heap.size + 1 + 1, 0, none⟩) 1 1, .int .i64 mn, .int .i64 mn, .int .i64 mn] 122)) (dpC N mn) (some ⟨w.heap.size, 0, none⟩) (some ⟨w.heap.size + 1 + 1, 0, none⟩)) := ⟨fun i hi => by
    obtain rfl : i = 0 := by have : i < 1 := hi; omega
    exact ⟨_, 0, rfl, by omega, m0 0⟩, fun i hi => by
    obtain rfl : i = 0 := by have : i < 1 := hi; omega
    refine ⟨_, 0, some ⟨w.heap.size + 1, 0, none⟩, 1, rfl, by omega, m2 0, fun j hj => ?_, fun h => by cases h⟩
    obtain rfl : j = 0 := by have : j < 1 := hj; omega
    exact ⟨_, 0, rfl, by omega, m1 0⟩⟩
  have BX : Box ((((w.alloc (.cells #[.int .i64 N] 3)).alloc (.cells #[.int .i64 0] 3)).alloc (.cells #[.slice (some ⟨w.heap.size + 1, 0, none⟩) 1 1] 38)).alloc (.cells #[.slice (some ⟨w.heap.size, 0, none⟩) 1 1, .slice (some ⟨w.heap.size + 1 + 1, 0, none⟩) 1 1, .int .i64 mn, .int .i64 mn, .int .i64 mn] 122)) (w.heap.size + 1 + 1 + 1) (dpC N mn) (some ⟨w.heap.size, 0, none⟩) 1 (some ⟨w.heap.size + 1 + 1, 0, none⟩) 1 := ⟨m3 0, m3 1, m3 2, m3 3, m3 4, by rw [m4]; omega⟩
  have F1 := m5
  clear m0 m1 m2 m3 m4 m5
  have HF := hide F1
  have HX := hide BX
  clear F1 BX
  go_enter Tryz.func13, Tryz.ntmps13
  go_upto_region 2 with (fail)
  generalize ((((w.alloc (.cells #[.int .i64 N] 3)).alloc (.cells #[.int .i64 0] 3)).alloc (.cells #[.slice (some ⟨w.heap.size + 1, 0, none⟩) 1 1] 38)).alloc (.cells #[.slice (some ⟨w.heap.size, 0, none⟩) 1 1, .slice (some ⟨w.heap.size + 1 + 1, 0, none⟩) 1 1, .int .i64 mn, .int .i64 mn, .int .i64 mn] 122)) = W at *
  have hwd := dpC_wide N mn
  obtain ⟨x0, x1, x2, x3, x4, _⟩ := unhide HX
  simp only [dpC] at x0 x1 x2 x3 x4
  obtain ⟨i, hi⟩ := Dz.Cf.is_ex (dpC N mn)
  have HIS := hide hi
  have HCE : Hid (Calls Tryz.prog 63 #[(.agg #[.slice (some ⟨w.heap.size, 0, none⟩) 1 1, .slice (some ⟨w.heap.size + 1 + 1, 0, none⟩) 1 1, .int .i64 mn, .int .i64 mn, .int .i64 mn])] W fun ev w' => ev = .returned (.int .i64 i) ∧ Below W.heap.size W w') := (cerr_ok (dpC N mn) _ _ 1 1 W (unhide HA) hwd).mono (fun ev w' hh => by obtain ⟨j, h1, h2, h3⟩ := hh; exact ⟨by rw [h1, Cf.is_one h2 hi], h3⟩)
  by_cases hg : 1 ≤ N ∧ N ≤ 256 ∧ 0 ≤ mn
  case neg =>
    have hi0 := dpC_not hi hg
    have d2 : decide (i > 0) = true := by simpa using hi0
    have d3 : decide ((0 : Int) < i) = true := by simpa using hi0
    have hno : ¬ dgood N mn sz nw := fun h => hg h.1
    clear hi hg
    go_wp2_with fail
    refine (unhide HCE).mono ?_
    rintro ev w3 ⟨rfl, b3⟩
    go_wp2
    refine bodyPost_ret (v := .tuple #[.pointer none, .pointer none, .bool false]) (by simp [results, Tryz.results13, go_sem]; try rfl) rfl ?_
    exact Or.inl ⟨hno, rfl, btr (unhide HF) b3⟩
  obtain rfl : i = 0 := Cf.is_one hi (dpC_is hg)
  by_cases hsz : 1 ≤ sz ∧ sz ≤ 64
  case neg =>
    have hno : ¬ dgood N mn sz nw := fun h => hsz h.2.1
    have hsz2 : sz < 1 ∨ (¬ sz < 1 ∧ 64 < sz) := by omega
    go_wp2_with fail
    refine (unhide HCE).mono ?_
    rintro ev w3 ⟨rfl, b3⟩
    rcases hsz2 with h1 | ⟨h1, h2⟩
    · have ds1 : decide (sz < 1) = true := by simpa using h1
      go_wp2
      refine bodyPost_ret (v := .tuple #[.pointer none, .pointer none, .bool false]) (by simp [results, Tryz.results13, go_sem]; try rfl) rfl ?_
      exact Or.inl ⟨hno, rfl, btr (unhide HF) b3⟩
    · have ds1 : decide (sz < 1) = false := by simpa using h1
      have ds2 : decide (sz > 64) = true := by simpa using h2
      go_wp2
      refine bodyPost_ret (v := .tuple #[.pointer none, .pointer none, .bool false]) (by simp [results, Tryz.results13, go_sem]; try rfl) rfl ?_
      exact Or.inl ⟨hno, rfl, btr (unhide HF) b3⟩
  have ds1 : decide (sz < 1) = false := by simp; omega
  have ds2 : decide (sz > 64) = false := by simp; omega
  have ds3 : ¬ sz < 1 := by omega
  have ds4 : ¬ 64 < sz := by omega
  by_cases hnw : 1 ≤ nw ∧ nw ≤ 4
  case neg =>
    have hno : ¬ dgood N mn sz nw := fun h => hnw h.2.2
    have hnw2 : nw < 1 ∨ (¬ nw < 1 ∧ 4 < nw) := by omega
    go_wp2_with fail
    refine (unhide HCE).mono ?_
    rintro ev w3 ⟨rfl, b3⟩
    rcases hnw2 with h1 | ⟨h1, h2⟩
    · have ds5 : decide (nw < 1) = true := by simpa using h1
      go_wp2
      refine bodyPost_ret (v := .tuple #[.pointer none, .pointer none, .bool false]) (by simp [results, Tryz.results13, go_sem]; try rfl) rfl ?_
      exact Or.inl ⟨hno, rfl, btr (unhide HF) b3⟩
    · have ds5 : decide (nw < 1) = false := by simpa using h1
      have ds6 : decide (nw > 4) = true := by simpa using h2
      go_wp2
      refine bodyPost_ret (v := .tuple #[.pointer none, .pointer none, .bool false]) (by simp [results, Tryz.results13, go_sem]; try rfl) rfl ?_
      exact Or.inl ⟨hno, rfl, btr (unhide HF) b3⟩
  obtain ⟨nn, rfl⟩ := Int.eq_ofNat_of_zero_le (show 0 ≤ nw by omega)
  have dn1 : decide ((nn : Int) < 1) = false := by simp; omega
  have dn2 : decide ((nn : Int) > 4) = false := by simp; omega
  have dn3 : ¬ (nn : Int) < 1 := by omega
  have dn4 : ¬ (4 : Int) < nn := by omega
  have hnn : 1 ≤ nn ∧ nn ≤ 4 := by omega
  go_wp2_with fail
  refine (unhide HCE).mono ?_
  rintro ev w3 ⟨rfl, b3⟩
  have G3 := btr (unhide HF) b3
  have BX3 := hide ((unhide HX).b b3)
  have hA3 := (unhide HA).b b3
  have HCO : Hid (Calls Tryz.prog 65 #[(.agg #[.slice (some ⟨w.heap.size, 0, none⟩) 1 1, .slice (some ⟨w.heap.size + 1 + 1, 0, none⟩) 1 1, .int .i64 mn, .int .i64 mn, .int .i64 mn])] w3 fun ev w' => ∃ p' q' pc' qc', ev = .returned (cfV (dpC N mn) p' pc' q' qc') ∧ At w' (dpC N mn) p' q' ∧ Below w3.heap.size w3 w') := conf_ok (dpC N mn) _ _ 1 1 w3 hA3 hwd (fun h => by cases h)
  have HA3 := hide hA3
  obtain ⟨z0, z1, z2, z3, z4, _⟩ := unhide BX3
  simp only [dpC] at z0 z1 z2 z3 z4
  clear x0 x1 x2 x3 x4 HCE HA HX hA3
  go_wp2_with fail
  refine (unhide HCO).mono ?_
  rintro ev w4 ⟨p', q', pc', qc', rfl, A4, b4⟩
  have G4 := btr G3 b4
  have BX4 := hide ((unhide BX3).b b4)
  have HA4 := hide ((unhide HA3).b b4)
  have HN := hide (znew_ok (dpC N mn) p' q' pc' qc' w4 e ((unhide HE).below G4).three A4 hwd (unhide HIS))
  unfold cfV at *
  clear HCO z0 z1 z2 z3 z4 BX3 A4 HA3
  go_wp2_with fail
  refine (unhide HN).mono ?_
  rintro ev w5 ⟨z, nb, fm, tm, rfl, D5, fr5, b5⟩
  have G5 := hide (btr G4 b5)
  have BX5 := hide ((unhide BX4).b b5)
  have HA5 := hide ((unhide HA4).b b5)
  have HFR : Hid (∀ i, i < (dpC N mn).n → w.heap.size ≤ fm i ∧ w.heap.size ≤ tm i) := fun i hi => by have := fr5 i hi; have := G4.size; omega
  have HWB : w.heap.size ≤ w5.heap.size := (unhide G5).size
  have HD5 := hide D5
  clear HN BX4 fr5 b4 D5 b5 G3 G4 HF HA4 b3
  have HNW := hide (snew_ok w.heap.size z sz w5 hsz.1 hsz.2 HWB)
  unfold ptr at *
  go_wp2_with fail
  refine (unhide HNW).mono ?_
  rintro ev w6 ⟨x, m, ly, rfl, hC, hl6, hly, b6⟩
  have P6 := hide (ps_new (nb := nb) (fm := fm) (tm := tm) (unhide HD5) b6 hl6 hC (unhide HFR) (by show 1 ≤ 20; omega))
  have G6 := hide (btr (unhide G5) b6)
  have BX6 := hide ((unhide BX5).b b6)
  have HA6 := hide ((unhide HA5).b b6)
  have HLY := hide hly
  have HMM := hide hC.mm
  have h6N : w.heap.size ≤ w6.heap.size := (unhide G6).size
  clear HNW hC hl6 hly b6 HD5 G5 BX5 HA5
  have HDW := hide (dnew_ok w.heap.size x nn w6 h6N hnn)
  go_wp2_with fail
  refine (unhide HDW).mono ?_
  rintro ev w7 ⟨rfl, ws, hws, D7⟩
  have HD7 := hide D7
  have G7 := hide (btr (unhide G6) D7.b)
  have BX7 := hide ((unhide BX6).b D7.b)
  have hA7 := (unhide HA6).b D7.b
  obtain ⟨z0, z1, z2, z3, z4, _⟩ := unhide BX7
  simp only [dpC] at z0 z1 z2 z3 z4
  obtain ⟨hn1, hn4, hP, hm, hM, hD, hmn, hml, hlh⟩ := Cf.zero (unhide HIS)
  have HNZ : Hid (Calls Tryz.prog 69 #[(.agg #[.slice (some ⟨w.heap.size, 0, none⟩) 1 1, .slice (some ⟨w.heap.size + 1 + 1, 0, none⟩) 1 1, .int .i64 mn, .int .i64 mn, .int .i64 mn])] w7 fun ev w' => ∃ z nb, ev = .returned (ptr z) ∧ RZ w' z (dpC N mn).mn (dpC N mn).lw (dpC N mn).hi (dpC N mn).n nb (nd0 (dpC N mn).P) (fun i => nfr ((dpC N mn).D i) (dpC N mn).n 1001) ∧ Below w7.heap.size w7 w' ∧ NAt w7 w' z (dpC N mn).n ∧ w7.heap.size ≤ z ∧ ∀ i, i < (dpC N mn).n → w7.heap.size ≤ nb i) := rznew_at (dpC N mn) _ _ 1 1 w7 hA7 hn1 hn4 hm hM hP (fun i hi => List.length_pos_iff.1 (by have := (nfr_good (hD i hi)).1; omega))
  clear HDW D7 BX6 HA6 hA7 BX7 hn1 hn4 hP hm hM hD hmn hml hlh
  go_wp2_with fail
  refine (unhide HNZ).mono ?_
  rintro ev w10 ⟨rz, nb2, rfl, R10, b10, ⟨gN, cN, e5, hgN⟩, hrz, hnb2⟩
  have F11 := ballo (Below.refl w10.heap.size w10) (.cells #[.pointer (some ⟨rz, 0, none⟩), .int .i64 sz, .slice none 0 0] 140)
  have n11 := World.cell?_alloc_new w10 #[.pointer (some ⟨rz, 0, none⟩), .int .i64 sz, .slice none 0 0] 140
  have hs10 : w7.heap.size ≤ w10.heap.size := b10.size
  have hs7 : w.heap.size ≤ w7.heap.size := (unhide G7).size
  have RC11 : RC w.heap.size (w10.alloc (.cells #[.pointer (some ⟨rz, 0, none⟩), .int .i64 sz, .slice none 0 0] 140)) w10.heap.size rz sz m [] [] [] := ⟨n11 0, n11 1, ⟨none, 0, n11 2, World.ownsRow_nil _ _ _ _⟩, tag_new _ _ _, by omega, rfl, rfl, List.nodup_nil, (fun t ht => by cases ht), (fun i b t s h => by simp at h), fun o => World.frozen?_alloc_at _ _ w10.heap.size o rfl⟩
  have RR11 : Hid (RR w.heap.size (w10.alloc (.cells #[.pointer (some ⟨rz, 0, none⟩), .int .i64 sz, .slice none 0 0] 140)) w10.heap.size rz sz m [] [] [] (dpC N mn).mn (dpC N mn).lw (dpC N mn).hi (dpC N mn).n nb2 (nd0 (dpC N mn).P) (fun i => nfr ((dpC N mn).D i) (dpC N mn).n 1001)) := by
    refine ⟨R10.b F11, RC11, fun i hi => by have := hnb2 i hi; omega, fun g cp hc => ?_⟩
    have h1 : (w10.alloc (.cells #[.pointer (some ⟨rz, 0, none⟩), .int .i64 sz, .slice none 0 0] 140)).cell? ⟨rz, 5, none⟩ = w10.cell? ⟨rz, 5, none⟩ := F11.cell (p := ⟨rz, 5, none⟩) R10.tg.lt
    rw [h1, e5] at hc
    simp only [Option.some.injEq, Value.slice.injEq, Addr.mk.injEq] at hc
    obtain ⟨⟨rfl, _⟩, _⟩ := hc
    omega
  have HB11 := hide (btr b10 F11)
  have HRN := hide (rdnew_ok w.heap.size w10.heap.size nn hnn (w10.alloc (.cells #[.pointer (some ⟨rz, 0, none⟩), .int .i64 sz, .slice none 0 0] 140)) (by have := F11.size; omega) (fun _ => False))
  clear HNZ z0 z1 z2 z3 z4 R10 b10 e5 hgN hrz hnb2 F11 n11 RC11 hs10
  unfold ptr at *
  go_wp2_with fail
  generalize w10.alloc (.cells #[.pointer (some ⟨rz, 0, none⟩), .int .i64 sz, .slice none 0 0] 140) = W11 at *
  generalize w10.heap.size = rc at *
  refine (unhide HRN).mono ?_
  rintro ev w12 ⟨rd, hb, rfl, D12, b12⟩
  obtain ⟨g, Q12⟩ := QD.new (unhide P6) (unhide G6) h6N (unhide HLY) (by omega) (unhide HD7) (unhide HB11) (unhide RR11) b12 (by rw [hws]; exact D12)
  have hP1 : 1 ≤ (dpC N mn).P 0 := hg.1
  have hP2 : (dpC N mn).P 0 ≤ 256 := hg.2.1
  have hfil : Fill N.toNat m (nd0 (dpC N mn).P 0) [] 0 := ⟨nd0_ok hP1 hP2, by rw [pgs_nd0 hP1 hP2]; show N + 0 = (N.toNat : Int); omega, rfl, fun s hs => by cases hs⟩
  have HQ12 := hide Q12
  have HFI := hide hfil
  clear HRN D12 b12 Q12 P6 HLY HD7 HB11 RR11 hfil hP1 hP2 hs7
  go_wp2
  refine bodyPost_ret (v := .tuple #[.pointer (some ⟨w6.heap.size, 0, none⟩), .pointer (some ⟨rd, 0, none⟩), .bool true]) (by simp [results, Tryz.results13, go_sem]; try rfl) rfl ?_
  refine Or.inr ⟨⟨hg, hsz, by omega⟩, ⟨w, w.heap.size, x, z, w6.heap.size, g, sz, m, mn, mn, mn, 1, nb, fm, tm, fun i => nfr ((dpC N mn).D i) (dpC N mn).n 1001⟩, ⟨rc, rz, rd, hb⟩, ⟨0, [], nd0 (dpC N mn).P, ws, [], fun _ => []⟩, rfl, ⟨rfl, Nat.le_refl _, rfl, rfl, rfl, (unhide HMM).2.2, one_fr, rfl, rfl, rfl, by simp [hws], rfl, unhide HFI⟩, ?_⟩
  exact ⟨(unhide HQ12).q.less (fun j hj => by rcases hj with h | h <;> cases h), (unhide HQ12).r, (unhide HQ12).d⟩
end Pl
end Go.Proofs.YtcbmfakjfoggaaaGreatDoor
namespace Go.Proofs.YtcbmfakjfoggaaaGreatDoor
open Go.RowKit Go.Maps
namespace Pl
open Fr Bd Zn Dz Sb Mg
section
variable {C : Dc} {S : Ds} {M : Mc} {R : Ms} {w w' : World} {e : Nat → Addr} {N : Int} {w0 : World}
/-- The laws' depot, as a pool is made of it. -/
theorem Dnew.fs (h : Dnew N 0 64 1 w0 C S) : FS N.toNat C S [] := by
  have hm : C.m = 1 := by have := h.hm; omega
  exact ⟨h.hk, h.hfr, by omega, h.hpl, fun t => by rw [h.hct], by have := h.hfi; rw [h.hss]; exact this, List.nodup_nil, fun _ h => by cases h⟩
theorem Dnew.m1 (h : Dnew N 0 64 1 w0 C S) : C.m = 1 := by have := h.hm; omega
set_option maxRecDepth 100000 in
set_option maxHeartbeats 16000000 in
theorem pooled_ok (w : World) (e : Nat → Addr) (he : Errs w e) (hw : 11 < w.heap.size) : Calls Tryz.prog 12 #[] w fun ev w' => ev = .returned (.bool true) ∧ Below w.heap.size w w' := by
  have HE := hide he
  have HDP := hide (depot_ok 1 0 64 1 w e he (by omega))
  have hg : dgood 1 0 64 1 := by unfold dgood; omega
  clear he
  go_enter Tryz.func12, Tryz.ntmps12
  go_wp2_with fail
  refine (unhide HDP).mono ?_
  rintro ev w1 h1
  rcases h1 with ⟨h1, _⟩ | ⟨_, C, M, S, rfl, hD, hQ⟩
  · exact absurd hg h1
  have hw0 := hD.hw
  have hDK : DK C (fun _ => False) (fun _ => none) S w1 := DQ.less hQ.q (fun j hj => hj.elim)
  have hE := unhide HE
  rw [← hw0] at hE hw
  have HNW := hide (new_z (B := C.w0.heap.size) (n := 1) (pg := 1) hDK hD.hN hE (Nat.le_refl _) (DQ.b0 hDK).size hD.fs hD.hmn hD.hws ⟨by omega, by omega⟩ (by rw [hD.m1]; omega))
  have HN := hide hD.hN
  have HE2 := hide hE
  have HM1 := hide hD.m1
  clear hQ hDK hE HDP hg HE
  go_wp2_with fail
  refine (unhide HNW).mono ?_
  rintro ev w2 ⟨F2, rfl, Z2⟩
  have HR2 := hide (reserve_z Z2)
  have HT2 := hide (take_z Z2 (unhide HN) (unhide HE2) hw (by omega) (by omega))
  generalize w1.heap.size + 1 + 1 = pb at *
  clear HNW F2 Z2
  simp only [unhide HM1, List.length_nil] at HT2
  go_wp2_with fail
  refine (unhide HR2).mono ?_
  rintro ev w3 ⟨rfl, rfl⟩
  clear HR2
  go_wp2_with fail
  refine (unhide HT2).mono ?_
  rintro ev w4 ⟨F4, ⟨_, ⟨oN, oA⟩, n4, rfl, _, Z4⟩ | ⟨h4, _⟩⟩
  case inr => omega
  have F5 := ballo (Below.refl w4.heap.size w4) (.cells #[.int .i64 oN, .int .i64 oA] 34)
  have T5 := tag_new w4 #[.int .i64 oN, .int .i64 oA] 34
  have q' := World.cell?_alloc_new w4 #[.int .i64 oN, .int .i64 oA] 34
  have q0 := q' 0
  have q1 := q' 1
  simp only [List.getElem?_toArray, List.getElem?_cons_zero, List.getElem?_cons_succ] at q0 q1
  have Z5 := Z4.more F5 (Nat.le_refl _) T5
  have hn4 := Z5.le
  rw [unhide HM1] at hn4
  have HT5 := hide (take_z Z5 (unhide HN) (unhide HE2) hw (by omega) (by omega))
  simp only [unhide HM1, List.length_nil, List.length_append, List.length_singleton] at HT5 hn4
  obtain rfl : n4 = 0 := by omega
  clear HT2 F4 Z4 F5 T5 q' Z5 hn4
  unfold objV at *
  simp only at *
  go_upto_region 8 with (fail)
  generalize w4.alloc (.cells #[.int .i64 oN, .int .i64 oA] 34) = W5 at *
  go_wp2_with fail
  refine (unhide HT5).mono ?_
  rintro ev w6 ⟨F6, ⟨h6, _⟩ | ⟨_, rfl, Z6⟩⟩
  case inl => omega
  have hb6 := F6.1 w4.heap.size (Or.inr rfl)
  have x0 := (World.cell?_of_block (a := ⟨w4.heap.size, 0, none⟩) hb6).trans q0
  have x1 := (World.cell?_of_block (a := ⟨w4.heap.size, 1, none⟩) hb6).trans q1
  generalize w4.heap.size = b5 at *
  have F7 := ballo (Below.refl w6.heap.size w6) (.cells #[.int .i64 0, .int .i64 0] 34)
  have Z7 := Z6.b F7
  have hbl6 : b5 < w6.heap.size := Z6.vlt b5 (Or.inr rfl)
  have y0 := (F7.cell (p := ⟨b5, 0, none⟩) hbl6).trans x0
  have y1 := (F7.cell (p := ⟨b5, 1, none⟩) hbl6).trans x1
  have HZ7 := hide Z7
  clear HT5 F6 q0 q1 hb6 x0 x1 Z6 F7 Z7
  unfold errV at *
  go_upto_region 9 with (fail)
  generalize w6.alloc (.cells #[.int .i64 0, .int .i64 0] 34) = W7 at *
  have hbl7 : b5 < W7.heap.size := (unhide HZ7).vlt b5 (Or.inr rfl)
  have HCD := hide (coded_sent 7 (by omega) 8 (by omega) W7 e ((unhide HE2).below (unhide HZ7).low))
  clear hbl6
  go_wp2_with fail
  refine (unhide HCD).mono ?_
  rintro ev w8 ⟨rfl, b8⟩
  have Z8 := (unhide HZ7).b b8
  have z0 := (b8.cell (p := ⟨b5, 0, none⟩) hbl7).trans y0
  have z1 := (b8.cell (p := ⟨b5, 1, none⟩) hbl7).trans y1
  have hbl8 : b5 < w8.heap.size := Z8.vlt b5 (Or.inr rfl)
  have HRS := hide (reserve_z Z8)
  have HWA := hide (waiting_z Z8 (by simp))
  have HZ8 := hide Z8
  clear HCD b8 y0 y1 hbl7 Z8 HZ7
  go_wp2_with fail
  refine (unhide HRS).mono ?_
  rintro ev w9 ⟨rfl, rfl⟩
  clear HRS
  go_wp2_with fail
  refine (unhide HWA).mono ?_
  rintro ev w10 ⟨v', rfl, o10, b10⟩
  obtain ⟨p10, c10, rfl⟩ := own_sl o10
  have Z10 := (unhide HZ8).b b10
  have y0 := (b10.cell (p := ⟨b5, 0, none⟩) hbl8).trans z0
  have y1 := (b10.cell (p := ⟨b5, 1, none⟩) hbl8).trans z1
  have HGV := hide (give_z (o := (oN, oA)) (x := 0) Z10 (unhide HE2) (by omega) (by omega) (by simp))
  clear HWA o10 b10 z0 z1 hbl8 HZ8 Z10
  simp only [List.length_singleton] at *
  go_wp2_with fail
  refine (unhide HGV).mono ?_
  rintro ev w11 ⟨F11, rfl, Z11⟩
  have HWB := hide (waiting_z Z11 (by simp))
  have HZ11 := hide Z11
  clear HGV F11 Z11
  simp only [List.length_nil] at HWB
  go_wp2_with fail
  refine (unhide HWB).mono ?_
  rintro ev w12 ⟨v', rfl, o12, b12⟩
  obtain ⟨p12, c12, rfl⟩ := own_sl o12
  have hlow := ((unhide HZ11).b b12).low
  rw [hw0] at hlow
  clear HWB o12 b12 HZ11
  go_wp2
  go_ret
  exact ⟨rfl, hlow⟩
end
end Pl
end Go.Proofs.YtcbmfakjfoggaaaGreatDoor
namespace Go.Proofs.YtcbmfakjfoggaaaGreatDoor
open Go.RowKit Go.Maps
namespace Pl
open Fr Bd Zn Dz Sb Mg
section
variable {B : Nat} {C : Dc} {V V' : Nat → Prop} {X : Nat → Option Obj} {pb tm ym pg tk q n : Nat} {S S' : Ds} {P P' : Ps} {w w' : World} {T : List Bl} {Y : List (Nat × Bl)} {L : List Nat}
/-- Blocks of others turn beside a pool. -/
theorem PD.others (h : PD B C V X pb tm ym S P w) (hk : Kp V w w') (hV : ∀ j, V' j → Tag w' j 34 ∧ (V j ∨ w.heap.size ≤ j)) : PD B C V' X pb tm ym S P w' := by
  have hpb : ∀ b, PB pb tm ym P b → ¬ V b := fun b hb hv => by
    have ht := h.vtag b hv
    rcases hb with rfl | rfl | rfl | hb | hb
    · exact ht.ne h.m.tg (by decide) rfl
    · obtain ⟨o, e1, e2⟩ := h.m.t.kindless; exact kindless_ne e1 e2 ht rfl
    · obtain ⟨o, e1, e2⟩ := h.m.y.kindless; exact kindless_ne e1 e2 ht rfl
    · exact h.dj b hb hv
    · exact ht.ne (ob_tag h.m.l hb).1 (by decide) rfl
  have hs : ∀ b, PB pb tm ym P b → w'.heap[b]? = w.heap[b]? := fun b hb => hk.blk b (h.m.lt hb).1 (hpb b hb)
  have e := X2_same (X := X) (hs tm (Or.inr (Or.inl rfl))) (hs ym (Or.inr (Or.inr (Or.inl rfl))))
  have hK : DK C (fun j => V' j ∨ OB P.vr j) (X2 tm ym X w) S w' := by
    refine h.k.oth hk ?_ (fun b hb => DQ.ul h.k b (Or.inl hb)) (fun b hb => Or.inl (Or.inl hb)) (fun b o e => ?_) (fun j hj => ?_)
    · intro g c i h' d e1 e2 hi hv
      obtain ⟨g2, c2, rows, e3, o2, r2⟩ := h.k.dz.cf
      rw [e3] at e1
      simp only [Option.some.injEq, Value.slice.injEq, Addr.mk.injEq, and_true, true_and] at e1
      obtain ⟨rfl, rfl⟩ := e1
      obtain ⟨h2, d2, e4, o3⟩ := r2 i hi
      rw [(o2.cellAt i (by omega)).trans e4] at e2
      simp only [Option.some.injEq, Value.slice.injEq, Addr.mk.injEq, and_true, true_and] at e2
      obtain ⟨rfl, rfl⟩ := e2
      exact (own_tag o3).ne (h.vtag _ hv) (by decide) rfl
    · obtain ⟨e1, e2⟩ := h.k.map e
      exact ⟨(hk.blk b (Array.getElem?_eq_some_iff.mp e1).1 (fun hv => kindless_ne e1 e2 (h.vtag b hv) rfl)).trans e1, e2, Or.inl ⟨o, e⟩⟩
    · rcases hj with hj | hj
      · exact ⟨(hV j hj).1, (hV j hj).2.imp Or.inl id⟩
      · exact ⟨(ob_tag h.m.r hj).1.blk (hs j (Or.inr (Or.inr (Or.inr (Or.inl hj))))), Or.inl (Or.inr hj)⟩
  refine ⟨by rw [e]; exact hK, h.m.keep hs, h.nr.keep h.k.dz (fun c t hm hc => hk.blk c hc.lt (fun hv => hc.ne (h.vtag c hv) (fun e => by subst e; simp at hm) rfl)) (fun j hj => Or.inl hj), fun j hj hv => ?_, h.xt, h.hB⟩
  rcases (hV j hv).2 with hv' | hv'
  · exact h.dj j hj hv'
  · have := (ob_tag h.m.r hj).1.lt; omega
theorem PZ.grown {v : Value} {B' g4 n4 c4 : Nat} {xs : List Value} (h : PZ B C (OB v) pb tm ym pg T Y L tk q n w) (q4 : w.grownBy w' v.ownBlock) (o4 : w'.ownsRow B' 34 2 (.slice (some ⟨g4, 0, none⟩) n4 c4) n4 xs) (hg : v.ownBlock = some g4 ∨ g4 = w.heap.size) : PZ B C (OB (.slice (some ⟨g4, 0, none⟩) n4 c4)) pb tm ym pg T Y L tk q n w' := by
  obtain ⟨S, P, l, hD, hr⟩ := h
  refine ⟨S, P, l, hD.others ⟨q4.os, q4.tape, q4.output, q4.size, fun k hk hn => q4.block k hk (fun e => hn e.symm)⟩ (fun j hj => ?_), hr⟩
  obtain rfl : g4 = j := by simpa [OB, Value.ownBlock] using hj
  refine ⟨own_tag o4, ?_⟩
  rcases hg with h | h
  · exact Or.inl h
  · exact Or.inr (by omega)
/-- The row stands where its block does. -/
theorem row_vf {v : Value} {B' k : Nat} {xs : List Value} (h : w.ownsRow B' 34 2 v k xs) (hu : VF (OB v) w w') : w'.ownsRow B' 34 2 v k xs := own_keepF h (fun g hg => hu.1 g hg)
end
end Pl
end Go.Proofs.YtcbmfakjfoggaaaGreatDoor
