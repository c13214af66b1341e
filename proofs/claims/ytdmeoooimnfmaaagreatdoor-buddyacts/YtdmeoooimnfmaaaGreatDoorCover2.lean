/- The contract of frames.Cover: the blocks that cover the pages. -/
import Derived.Test.YtdmeoooimnfmaaaGreatDoorCover
namespace Go.Proofs.YtdmeoooimnfmaaaGreatDoor
open Go.RowKit
namespace Fr
theorem info36 : (Tryz.prog.info? 33).map (fun i => (i.zero, i.size, i.bytes)) = some (some (.agg #[.int .i64 0, .int .i64 0]), 2, 16) := by kernel_rfl
theorem own_row {w : World} {base e size : Nat} {v : Value} {n : Nat} {xs : List Value} (h : w.ownsRow base e size v n xs) : ∀ k, v.ownBlock = some k → base ≤ k := fun k hk => by
  rcases h.2 with ⟨rfl, _⟩ | ⟨g, cap, cur, rfl, hb, _⟩
  · simp [Value.ownBlock] at hk
  · simp [Value.ownBlock] at hk; omega

/-- What one more block does to what has been gathered. -/
theorem cov_step {w wr w1 : World} {b v' : Value} {D L : List (Int × Int)} {x t : Int} (hx : x < t) (hL : D ++ cv x (t - x) = L) (hown : wr.ownsRow w.heap.size 33 2 b D.length (flat D)) (hb : Below w.heap.size w wr)
    (hown' : w1.ownsRow w.heap.size 33 2 v' (D.length + 1) (flat D ++ [.int .i64 x, .int .i64 (wid x (t - x))])) {o : Obj} (hg : (wr.alloc o).grownBy w1 b.ownBlock) (_hn : v' = .slice none 0 0 ↔ b = .slice none 0 0 ∧ 1 = 0) :
    ((D ++ [(x, wid x (t - x))]) ++ cv (x + pw (wid x (t - x))) (t - (x + pw (wid x (t - x)))) = L) ∧ w1.ownsRow w.heap.size 33 2 v' (D ++ [(x, wid x (t - x))]).length (flat (D ++ [(x, wid x (t - x))])) ∧ Below w.heap.size w w1 ∧ (D ++ [(x, wid x (t - x))] = [] → v' = .slice none 0 0) := by
  refine ⟨?_, ?_, ?_, fun h => by simp at h⟩
  · rw [cv_cons x (t - x) (by omega)] at hL
    rw [show t - (x + pw (wid x (t - x))) = t - x - pw (wid x (t - x)) from by omega]
    simpa using hL
  · rw [flat_snoc]; simpa using hown'
  · exact (ballo hb o).grown hg (by have := hb.size; simp; omega) (own_row hown)

set_option maxHeartbeats 4000000 in
theorem cover_ok (a n : Int) (w : World) (h0 : 0 ≤ a) (hn : 0 ≤ n) (h2 : a + n ≤ 256) :
    Calls Tryz.prog 19 #[.int .i64 a, .int .i64 n] w fun ev w' => ∃ v, ev = .returned (.tuple #[v, .nilIface]) ∧ w'.ownsRow w.heap.size 33 2 v (cv a n).length (flat (cv a n)) ∧ Below w.heap.size w w' ∧ (cv a n = [] → v = .slice none 0 0) := by
  obtain ⟨i0, hi, hz0, hz1, hz2⟩ := info_parts info36
  have d1 : decide (a < 0) = false := by simp; omega
  have d2 : decide (256 < a) = false := by simp; omega
  have d3 : decide (n < 0) = false := by simp; omega
  have d4 : decide (256 - a < n) = false := by simp; omega
  have hlen : (cv a n).length ≤ 256 := by have := cv_length a n; omega
  have hat : a ≤ a + n := by omega
  have hL : [] ++ cv a (a + n - a) = cv a n := by rw [show a + n - a = n from by omega]; rfl
  generalize cv a n = L at *
  have HL := hide hL
  have HI := hide hi
  have HZ := hide hz0
  have HZ1 := hide hz1
  have HZ2 := hide hz2
  clear hL hi hz0 hz1 hz2
  go_enter Tryz.func19, Tryz.ntmps19
  go_wp2_with fail
  clear d1 d2 d3 d4
  generalize ht : a + n = t at *
  clear ht
  go_loopw [0, 6] (fun p b wr => ∃ (x : Int) (D : List (Int × Int)), p = .int .i64 x ∧ 0 ≤ x ∧ x ≤ t ∧ Hid (D ++ cv x (t - x) = L) ∧ wr.ownsRow w.heap.size 33 2 b D.length (flat D) ∧ Below w.heap.size w wr ∧ Hid (D = [] → b = .slice none 0 0)) (fun p _ _ => (t - intOf p).toNat)
  case atStart => exact ⟨a, [], rfl, h0, by omega, HL, World.ownsRow_nil _ _ _ _, Below.refl _ _, fun _ => rfl⟩
  case round =>
    obtain ⟨x, D, rfl, x0, xt, hD, hown, hb, hnil⟩ := hrel
    by_cases hlt : x < t
    · have hdl : D.length ≤ 256 := by
        have := congrArg List.length (unhide hD); simp at this; omega
      have hw := wid_facts x (t - x) (by omega)
      have hp := pw_pos (wid x (t - x))
      have hp2 := pw_le6 (wid x (t - x)) hw.1 hw.2.1
      have HW := hide (widest_ok x t)
      have HS := fun v' w1 o h1 h2 h3 => hide (cov_step (L := L) (v' := v') (w1 := w1) (o := o) hlt (unhide hD) hown hb h1 h2 h3)
      generalize wid x (t - x) = k at *
      have hpk : (2 : Int) ^ k.toNat = pw k := rfl
      obtain ⟨k0, k6, _, kr⟩ := hw
      generalize pw k = d at *
      go_wp2_with fail
      refine ((unhide HW) _ x0 hlt h2).mono ?_
      rintro ev w2 ⟨rfl, rfl⟩
      go_wp2_with (at_builtin; refine wpList_append_own _ rfl (.tmp 35) (.tmp 39) 46 rfl w.heap.size 33 i0 (.agg #[.int .i64 0, .int .i64 0]) 2 16 Tryz.underlying46 (unhide HI) (unhide HZ) (unhide HZ1) (unhide HZ2) rfl (by decide) _ _ _ rfl (hown.alloc _) ⟨w2.heap.size, 0, none⟩ 1 1 [.int .i64 x, .int .i64 k] rfl rfl ?c1 ?c2 ?c3 ?c4 ?c5 ?_)
      case c1 =>
        intro j u hj
        match j, hj with
        | 0, hj => simp at hj; subst hj; simp [Addr.add]
        | 1, hj => simp at hj; subst hj; simp [Addr.add]
      case c2 =>
        intro u hu
        simp at hu
        rcases hu with rfl | rfl <;> rfl
      case c3 => unfold maxLen; omega
      case c4 => omega
      case c5 => have := hb.size; simp; omega
      intro v' w1 hown' hgrow hnil'
      have R := hide ((unhide (HS v' w1 _ hown' hgrow (by simpa using hnil'))))
      clear hown' hgrow hnil' hown hb
      go_wp2_with fail
      go_roundw
      case rel =>
        have R := unhide R
        exact ⟨x + d, D ++ [(x, k)], rfl, by omega, by omega, R.1, R.2.1, R.2.2.1, R.2.2.2⟩
      case measure => simp [intOf]; omega
    · have hxt : x = t := by omega
      have hDL : D = L := by
        have := unhide hD
        rw [cv_nil _ _ (by omega)] at this
        simpa using this
      have hfin : wr.ownsRow w.heap.size 33 2 u6 L.length (flat L) ∧ (L = [] → u6 = .slice none 0 0) := by rw [← hDL]; exact ⟨hown, unhide hnil⟩
      have HF := hide hfin
      clear hfin hDL hown hnil hD
      go_wp2_with fail
      go_ret2
      exact ⟨_, rfl, (unhide HF).1, hb, (unhide HF).2⟩

theorem cover_err (a n : Int) (w : World) (e : Nat → Addr) (he : Errs3 w e) (h : a < 0 ∨ 256 < a ∨ n < 0 ∨ 256 - a < n) :
    Calls Tryz.prog 19 #[.int .i64 a, .int .i64 n] w fun ev w' => ev = .returned (.tuple #[.slice none 0 0, errV (e 1)]) ∧ Below w.heap.size w w' := by
  have hB := he.bound
  clear he
  by_cases c1 : a < 0
  · clear h
    go_enter Tryz.func19, Tryz.ntmps19
    go_wp2_with fail
    go_region
    go_wp2_with fail
    go_ret2
    exact ⟨rfl, (Below.refl _ _).drew⟩
  have d1 : decide (a < 0) = false := by simpa using c1
  by_cases c2 : 256 < a
  · clear h c1
    go_enter Tryz.func19, Tryz.ntmps19
    go_wp2_with fail
    go_region
    go_wp2_with fail
    go_ret2
    exact ⟨rfl, (Below.refl _ _).drew⟩
  have d2 : decide (256 < a) = false := by simpa using c2
  by_cases c3 : n < 0
  · clear h c1 c2
    go_enter Tryz.func19, Tryz.ntmps19
    go_wp2_with fail
    go_region
    go_wp2_with fail
    go_ret2
    exact ⟨rfl, (Below.refl _ _).drew⟩
  have d3 : decide (n < 0) = false := by simpa using c3
  have c4 : 256 - a < n := by omega
  clear h c3
  go_enter Tryz.func19, Tryz.ntmps19
  go_wp2_with fail
  go_region
  go_wp2_with fail
  go_ret2
  exact ⟨rfl, (Below.refl _ _).drew⟩
end Fr
end Go.Proofs.YtdmeoooimnfmaaaGreatDoor
