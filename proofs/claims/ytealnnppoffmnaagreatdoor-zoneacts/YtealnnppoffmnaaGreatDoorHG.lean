/- ZoneActs: its walk, over the contracts. -/
import Derived.Test.YtealnnppoffmnaaGreatDoorHD
import Derived.Test.YtealnnppoffmnaaGreatDoorHE
import Derived.Test.YtealnnppoffmnaaGreatDoorHF
import Derived.Test.YtealnnppoffmnaaGreatDoorHB
import Derived.BigQuiet
import Derived.Deep.RegionHeld3
namespace Go.Proofs.YtealnnppoffmnaaGreatDoor
open Go.RowKit Go.Maps
namespace Dz
open Fr Bd Zn
theorem nums_of {w : World} {b g n cap : Nat} {L : List Nat} (h : w.ownsRow b 3 1 (.slice (some ⟨g, 0, none⟩) n cap) n (ivs L)) (hL : L.length = n) : Nums w (some ⟨g, 0, none⟩) n (fun i => ((L.getD i 0 : Nat) : Int)) := fun i hi => by
  refine ⟨g, 0, rfl, (h.lt g rfl).2, ?_⟩
  rw [Nat.zero_add, h.cellAt i (by omega)]
  simp [ivs, List.getElem?_eq_getElem (show i < L.length by omega), List.getD_eq_getElem?_getD]
set_option maxRecDepth 100000 in
set_option maxHeartbeats 16000000 in
theorem zacts_err (c : Cf) (p q : Option Addr) (pc qc : Nat) (x : Int) (lp : Option Addr) (ln lc : Nat) (w : World) (e : Nat → Addr) (he : Errs w e) (h : At w c p q) (hpc : p = none → pc = 0) (i : Int) (hi : c.is i) (hi0 : i ≠ 0) :
    Calls Tryz.prog 6 #[cfV c p pc q qc, .int .i64 x, .slice lp ln lc] w fun ev w' => ev = .returned (.bool true) ∧ Below w.heap.size w w' := by
  have F1 := ballo (Below.refl w.heap.size w) (.cells #[.slice p c.n pc, .slice q c.m qc, .int .i64 c.mn, .int .i64 c.lw, .int .i64 c.hi] 51)
  have BX := box_new w c p q pc qc 51
  have HZO := hide (zoned_ok _ e (he.below F1))
  have HWD := hide (fun w1 (hb : Below w.heap.size w w1) => wide_ok c p q pc qc w1 (h.b hb))
  have HE := hide he
  have HA := hide h
  obtain ⟨a, ha10, rfl, ha⟩ := Cf.is_err hi hi0 e
  have HIS := hide hi
  clear he h hi
  unfold cfV
  go_enter Tryz.func6, Tryz.ntmps6
  go_upto_region 1 with (fail)
  generalize w.alloc (.cells #[.slice p c.n pc, .slice q c.m qc, .int .i64 c.mn, .int .i64 c.lw, .int .i64 c.hi] 51) = W at *
  go_wp2_with fail
  refine (unhide HZO).mono ?_
  rintro ev w1 ⟨rfl, b1⟩
  have G1 := btr F1 b1
  have BX1 := hide (BX.b b1)
  obtain ⟨x0, x1, x2, x3, x4, _⟩ := unhide BX1
  have HW := hide ((unhide HWD) w1 G1)
  unfold cfV at *
  clear HZO HWD
  go_wp2_with fail
  refine (unhide HW).mono ?_
  rintro ev w2 ⟨d, rfl, hd, b2⟩
  have G2 := btr G1 b2
  rcases hd with ⟨rfl, _⟩ | ⟨rfl, hnw⟩
  · go_wp2
    go_ret
    exact ⟨rfl, G2⟩
  by_cases hl : 60 < ln
  · have d1 : decide ((60 : Int) < ln) = true := by simp; omega
    go_wp2
    go_ret
    exact ⟨rfl, G2⟩
  have d1 : decide ((60 : Int) < ln) = false := by simp; omega
  have BX2 := hide ((BX.b b1).b b2)
  obtain ⟨y0, y1, y2, y3, y4, _⟩ := unhide BX2
  have HCE := hide ((cerr_ok c p q pc qc w2 ((unhide HA).b G2) hnw).mono (fun ev w' hh => show ev = Ending.returned (.int .i64 ((a : Int) + 1)) ∧ Below w2.heap.size w2 w' from by obtain ⟨j, h1, h2, h3⟩ := hh; exact ⟨by rw [h1, Cf.is_one h2 (unhide HIS)], h3⟩))
  unfold cfV at *
  clear HW x0 x1 x2 x3 x4
  go_wp2_with fail
  refine (unhide HCE).mono ?_
  rintro ev w3 ⟨rfl, b3⟩
  have G3 := btr G2 b3
  have BX3 := hide ((unhide BX2).b b3)
  have HCO := hide (conf_ok c p q pc qc w3 ((unhide HA).b G3) hnw hpc)
  obtain ⟨z0, z1, z2, z3, z4, _⟩ := unhide BX3
  unfold cfV at *
  clear HCE y0 y1 y2 y3 y4 BX BX2 b1 b2 b3
  go_wp2_with fail
  refine (unhide HCO).mono ?_
  rintro ev w4 ⟨p', q', pc', qc', rfl, A4, b4⟩
  have G4 := btr G3 b4
  have BX4 := hide ((unhide BX3).b b4)
  have HO := order_err c p' q' pc' qc' x _ w4 e ((unhide HE).below G4).three A4 hnw (unhide HIS) hi0
  rw [ha] at HO
  have HO := hide HO
  unfold cfV at *
  clear HCO z0 z1 z2 z3 z4 BX3 b4
  go_wp2_with fail
  refine (unhide HO).mono ?_
  rintro ev w5 ⟨rfl, b5⟩
  have G5 := btr G4 b5
  have BX5 := hide ((unhide BX4).b b5)
  have HCO := hide (conf_ok c p q pc qc w5 ((unhide HA).b G5) hnw hpc)
  obtain ⟨z0, z1, z2, z3, z4, _⟩ := unhide BX5
  unfold cfV at *
  clear HO BX4 b5 A4
  go_wp2_with fail
  refine (unhide HCO).mono ?_
  rintro ev w6 ⟨p', q', pc', qc', rfl, A6, b6⟩
  have G6 := btr G5 b6
  have BX6 := hide ((unhide BX5).b b6)
  have HO := znew_bad c p' q' pc' qc' w6 e ((unhide HE).below G6).three A6 hnw _ (unhide HIS) hi0
  rw [ha] at HO
  have HO := hide HO
  unfold cfV at *
  clear HCO z0 z1 z2 z3 z4 BX5 b6
  go_wp2_with fail
  refine (unhide HO).mono ?_
  rintro ev w7 ⟨rfl, b7⟩
  have G7 := btr G6 b7
  have BX7 := hide ((unhide BX6).b b7)
  have HCO := hide (conf_ok c p q pc qc w7 ((unhide HA).b G7) hnw hpc)
  obtain ⟨z0, z1, z2, z3, z4, _⟩ := unhide BX7
  unfold cfV at *
  clear HO BX6 b7 A6
  go_wp2_with fail
  refine (unhide HCO).mono ?_
  rintro ev w8 ⟨p', q', pc', qc', rfl, A8, b8⟩
  have G8 := btr G7 b8
  have HO := hide ((check_ok c p' q' pc' qc' w8 e ((unhide HE).below G8).three A8 hnw).mono (fun ev w' hh => show ev = Ending.returned (.iface 212 (.pointer (some (e a)))) ∧ Below w8.heap.size w8 w' from by obtain ⟨j, h1, h2, h3⟩ := hh; exact ⟨by rw [h2, Cf.is_one h1 (unhide HIS), ha], h3⟩))
  unfold cfV at *
  clear HCO z0 z1 z2 z3 z4 b8
  go_wp2_with fail
  refine (unhide HO).mono ?_
  rintro ev w9 ⟨rfl, b9⟩
  have G9 := btr G8 b9
  have HCS := hide (fun w1 (hb : Below w.heap.size w w1) => coded_sent a ha10 _ rfl w1 e ((unhide HE).below hb))
  have d0 : decide ((0 : Int) < (a : Int) + 1) = true := decide_eq_true (by omega)
  clear HO A8 b9 ha hi0 HIS BX7 hpc hl hnw
  go_wp2_with fail
  refine ((unhide HCS) w9 G9).mono ?_
  rintro ev w10 ⟨rfl, b10⟩
  have G10 := btr G9 b10
  go_wp2_with fail
  refine ((unhide HCS) w10 G10).mono ?_
  rintro ev w11 ⟨rfl, b11⟩
  have G11 := btr G10 b11
  go_wp2_with fail
  refine ((unhide HCS) w11 G11).mono ?_
  rintro ev w12 ⟨rfl, b12⟩
  have G12 := btr G11 b12
  go_wp2
  go_ret
  exact ⟨rfl, G12⟩
end Dz
end Go.Proofs.YtealnnppoffmnaaGreatDoor
