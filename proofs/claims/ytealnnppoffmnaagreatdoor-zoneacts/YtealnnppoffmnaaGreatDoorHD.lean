/- Package zone's Order by contract. -/
import Derived.Test.YtealnnppoffmnaaGreatDoorGR
import Derived.Test.YtealnnppoffmnaaGreatDoorGW
import Derived.BigQuiet
namespace Go.Proofs.YtealnnppoffmnaaGreatDoor
open Go.RowKit Go.Maps
namespace Dz
open Fr Bd Zn
theorem Cf.zero {c : Cf} (hi : c.is 0) : 1 ≤ c.n ∧ c.n ≤ 4 ∧ (∀ i, i < c.n → 1 ≤ c.P i ∧ c.P i ≤ 256) ∧ c.m = c.n ∧ (∀ i, i < c.m → c.M i = c.n) ∧ (∀ i, i < c.n → ∀ k, k < c.n → 0 ≤ c.D i k ∧ c.D i k ≤ 1000) ∧ 0 ≤ c.mn ∧ c.mn ≤ c.lw ∧ c.lw ≤ c.hi := by
  obtain ⟨hb2, hsh, _⟩ : ¬ c.bad2 ∧ c.shp ∧ ¬ c.bad3 := by
    rcases hi with ⟨h, _⟩ | ⟨h, _⟩ | ⟨_, h⟩
    · exact absurd h (by decide)
    · exact absurd h (by decide)
    · exact h
  have hM : ∀ i, i < c.m → c.M i = c.n := hsh.2
  have hm : c.m = c.n := hsh.1
  refine ⟨Nat.le_of_not_lt fun hh => hb2 (Or.inl (by omega)), Nat.le_of_not_lt fun hh => hb2 (Or.inr (Or.inl (by omega))), fun i hi => ⟨Int.not_lt.1 fun hh => hb2 (Or.inr (Or.inr (Or.inl ⟨i, hi, Or.inl hh⟩))), Int.not_lt.1 fun hh => hb2 (Or.inr (Or.inr (Or.inl ⟨i, hi, Or.inr hh⟩)))⟩, hm, hM, fun i hi k hk => ⟨Int.not_lt.1 fun hh => hb2 (Or.inr (Or.inr (Or.inr (Or.inl ⟨i, by omega, k, by rw [hM i (by omega)]; exact hk, Or.inl hh⟩)))), Int.not_lt.1 fun hh => hb2 (Or.inr (Or.inr (Or.inr (Or.inl ⟨i, by omega, k, by rw [hM i (by omega)]; exact hk, Or.inr hh⟩))))⟩, ?_⟩
  unfold Cf.bad2 at hb2
  simp only [not_or] at hb2
  omega
set_option maxHeartbeats 2000000 in
theorem order_err (c : Cf) (p q : Option Addr) (pc qc : Nat) (x i : Int) (w : World) (e : Nat → Addr) (he : Errs3 w e) (h : At w c p q) (hwd : ¬ c.wide) (hi : c.is i) (h0 : i ≠ 0) :
    Calls Tryz.prog 27 #[cfV c p pc q qc, .int .i64 x] w fun ev w' => ev = .returned (.tuple #[.slice none 0 0, errC e i]) ∧ Below w.heap.size w w' := by
  have F1 := ballo (Below.refl w.heap.size w) (.cells #[.slice p c.n pc, .slice q c.m qc, .int .i64 c.mn, .int .i64 c.lw, .int .i64 c.hi] 57)
  have BX := box_new w c p q pc qc 57
  have HC := check_ok c p q pc qc _ e (he.below F1) (h.b F1) hwd
  obtain ⟨a, _, _, ha⟩ := Cf.is_err hi h0 e
  have HC := hide (HC.mono (fun ev w' ⟨j, hj, hev, hb⟩ => show ev = Ending.returned (.iface 212 (.pointer (some (e a)))) ∧ Below _ _ w' from ⟨by rw [hev, Cf.is_one hj hi, ha], hb⟩))
  rw [ha]
  clear ha h he hi hwd h0
  unfold cfV at *
  obtain ⟨b0, b1, b2, b3, b4, hl⟩ := BX
  go_enter Tryz.func27, Tryz.ntmps27
  go_upto_region 1 with (fail)
  generalize w.alloc (.cells #[.slice p c.n pc, .slice q c.m qc, .int .i64 c.mn, .int .i64 c.lw, .int .i64 c.hi] 57) = W at *
  go_wp2_with fail
  refine (unhide HC).mono ?_
  rintro ev w2 ⟨rfl, b5⟩
  have F2 := btr F1 b5
  go_wp2_with fail
  go_ret2
  exact ⟨rfl, F2⟩
set_option maxHeartbeats 2000000 in
theorem order_bad (c : Cf) (p q : Option Addr) (pc qc : Nat) (x : Int) (w : World) (e : Nat → Addr) (he : Errs3 w e) (h : At w c p q) (hwd : ¬ c.wide) (hi : c.is 0) (hx : ¬ (0 ≤ x ∧ x < c.n)) :
    Calls Tryz.prog 27 #[cfV c p pc q qc, .int .i64 x] w fun ev w' => ev = .returned (.tuple #[.slice none 0 0, .iface 212 (.pointer (some (e 1)))]) ∧ Below w.heap.size w w' := by
  have F1 := ballo (Below.refl w.heap.size w) (.cells #[.slice p c.n pc, .slice q c.m qc, .int .i64 c.mn, .int .i64 c.lw, .int .i64 c.hi] 57)
  have BX := box_new w c p q pc qc 57
  have HC := check_ok c p q pc qc _ e (he.below F1) (h.b F1) hwd
  have HC := hide (HC.mono (fun ev w' ⟨j, hj, hev, hb⟩ => show ev = Ending.returned .nilIface ∧ Below _ _ w' from ⟨by rw [hev, Cf.is_one hj hi]; rfl, hb⟩))
  have HE := hide (fun w1 (hb : Below w.heap.size w w1) => (he.below hb).bound)
  have hm : c.m = c.n := (Cf.zero hi).2.2.2.1
  have hx' : x < 0 ∨ (0 ≤ x ∧ (c.m : Int) ≤ x) := by omega
  clear h he hi hwd hx hm
  unfold cfV at *
  obtain ⟨b0, b1, b2, b3, b4, hl⟩ := BX
  go_enter Tryz.func27, Tryz.ntmps27
  go_upto_region 1 with (fail)
  generalize w.alloc (.cells #[.slice p c.n pc, .slice q c.m qc, .int .i64 c.mn, .int .i64 c.lw, .int .i64 c.hi] 57) = W at *
  go_wp2_with fail
  refine (unhide HC).mono ?_
  rintro ev w2 ⟨rfl, b5⟩
  have F2 := btr F1 b5
  have hE := (unhide HE) w2 F2
  have y1 := (b5.cell (p := ⟨w.heap.size, 1, none⟩) hl).trans b1
  rcases hx' with hx' | ⟨hx0, hx'⟩
  · have d1 : decide (x < 0) = true := by simpa using hx'
    go_wp2_with fail
    go_quiet (fail)
    go_wp2
    go_ret2
    exact ⟨rfl, bdN F2 _⟩
  · have d1 : decide (x < 0) = false := by simp; omega
    have d2 : decide ((c.m : Int) ≤ x) = true := by simpa using hx'
    go_wp2_with fail
    go_quiet (fail)
    go_wp2
    go_ret2
    exact ⟨rfl, bdN F2 _⟩
set_option maxHeartbeats 2000000 in
theorem order_ok (c : Cf) (p q : Option Addr) (pc qc : Nat) (x : Nat) (w : World) (e : Nat → Addr) (he : Errs3 w e) (h : At w c p q) (hwd : ¬ c.wide) (hi : c.is 0) (hx : x < c.n) :
    Calls Tryz.prog 27 #[cfV c p pc q qc, .int .i64 x] w fun ev w' => ∃ g cap, ev = .returned (.tuple #[.slice (some ⟨g, 0, none⟩) c.n cap, .nilIface]) ∧ w'.ownsRow w.heap.size 3 1 (.slice (some ⟨g, 0, none⟩) c.n cap) c.n (ivs (nfr (c.D x) c.n 1001)) ∧ Below w.heap.size w w' := by
  have F1 := ballo (Below.refl w.heap.size w) (.cells #[.slice p c.n pc, .slice q c.m qc, .int .i64 c.mn, .int .i64 c.lw, .int .i64 c.hi] 57)
  have BX := box_new w c p q pc qc 57
  have HC := check_ok c p q pc qc _ e (he.below F1) (h.b F1) hwd
  have HC := hide (HC.mono (fun ev w' ⟨j, hj, hev, hb⟩ => show ev = Ending.returned .nilIface ∧ Below _ _ w' from ⟨by rw [hev, Cf.is_one hj hi]; rfl, hb⟩))
  obtain ⟨hn, hn4, _, hm, hM, hD, _⟩ := Cf.zero hi
  obtain ⟨blk, off, pr, cc, rfl, hbl, hcell, hnum, _⟩ := h.rs x (by omega)
  rw [hM x (by omega)] at hcell hnum
  have HN := hide (fun w1 (hb : Below w.heap.size w w1) => nearest_ok (c.D x) c.n cc pr w1 hn hn4 (hnum.b hb) (hD x hx))
  have HY := hide (fun w1 (hb : Below w.heap.size w w1) => (hb.cell (p := ⟨blk, off + x, none⟩) hbl).trans hcell)
  have hlt : (x : Int) < c.m := by omega
  have hge : (0 : Int) ≤ x := by omega
  have d1 : decide ((x : Int) < 0) = false := by simp
  have d2 : decide (c.m ≤ x) = false := by simp; omega
  clear h he hi hwd hx hn hn4 hm hM hD hnum hcell
  generalize ivs (nfr (c.D x) c.n 1001) = L at *
  unfold cfV at *
  obtain ⟨b0, b1, b2, b3, b4, hl⟩ := BX
  go_enter Tryz.func27, Tryz.ntmps27
  go_upto_region 1 with (fail)
  generalize w.alloc (.cells #[.slice p c.n pc, .slice (some ⟨blk, off, none⟩) c.m qc, .int .i64 c.mn, .int .i64 c.lw, .int .i64 c.hi] 57) = W at *
  go_wp2_with fail
  refine (unhide HC).mono ?_
  rintro ev w2 ⟨rfl, b5⟩
  have F2 := btr F1 b5
  have hY := (unhide HY) w2 F2
  have y1 := (b5.cell (p := ⟨w.heap.size, 1, none⟩) hl).trans b1
  have HN2 := hide ((unhide HN) w2 F2)
  clear HN HC HY
  go_wp2_with fail
  refine (unhide HN2).mono ?_
  rintro ev w3 ⟨g, cap, rfl, hO, b6⟩
  have F3 := btr F2 b6
  have hO := own_less hO F2.size
  go_wp2_with fail
  go_ret2
  exact ⟨g, cap, rfl, hO, F3⟩
end Dz
end Go.Proofs.YtealnnppoffmnaaGreatDoor
