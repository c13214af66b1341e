/- R7 · R8. -/
import Derived.Test.YtfefehkapffljaaGreatDoorGH
import Derived.Test.YtfefehkapffljaaGreatDoorGF
import Derived.Deep.DrawnRows
import Derived.Test.YtfefehkapffljaaGreatDoorGE
namespace Go.Proofs.YtfefehkapffljaaGreatDoor
open Go.RowKit
attribute [local go_sem ↓] Go.wp_at_zero Go.wp_at_succ
namespace Bd
open Fr
theorem rl_row {w : World} {b : Nat} {v : Value} {L : List Bl} (h : RL w b v L) : ∃ p c, v = .slice p L.length c ∧ (0 < L.length → ∃ g, p = some ⟨g, 0, none⟩ ∧ L.length ≤ c ∧ c ≤ maxLen ∧ Row w g L) := by
 rcases h with ⟨rfl, rfl⟩ | ⟨g, c, rfl, _, h1, h2, _, hr⟩
 · exact ⟨none, 0, rfl, fun h => by simp at h⟩
 · exact ⟨_, c, rfl, fun _ => ⟨g, rfl, h1, h2, hr.toRow⟩⟩
theorem Off.box2 {w : World} {b c d : Nat} (h : Off w b c) (h2 : Off w b d) (hd : d ≠ b) (o : Nat) (u : Value) : Off (w.setCell ⟨d, o, none⟩ u) b c := by
 obtain ⟨u1, L1, g1, r1⟩ := h.o1
 obtain ⟨u2, L2, g2, r2⟩ := h.o2
 obtain ⟨v1, M1, e1, l1⟩ := h2.o1
 obtain ⟨v2, M2, e2, l2⟩ := h2.o2
 have q1 : u1 = v1 := Option.some.inj (g1.symm.trans e1)
 have q2 : u2 = v2 := Option.some.inj (g2.symm.trans e2)
 subst q1
 subst q2
 exact ⟨⟨u1, L1, (cso (by simp <;> omega)).trans g1, r1.off2 l1 _ _⟩, ⟨u2, L2, (cso (by simp <;> omega)).trans g2, r2.off2 l2 _ _⟩⟩
set_option maxRecDepth 100000 in
set_option maxHeartbeats 4000000 in
theorem rtake_none (b : Nat) (N : Int) (F T : List Bl) (o : Int) (w : World) (h : RB w b N F T) (hi : Inv N F T) (hN : N ≤ 256) (hf : fit o F = none) :
   Calls Tryz.prog 82 #[ptr b, .int .i64 o] w fun ev w' => ev = .returned (.tuple #[blkV 0 0, .bool false]) ∧ Below w.heap.size w w' := by
 have hlen : F.length ≤ 256 := by
   have := srt_len hi.sF (a := 0) (b := 256) (fun z hz => by have h1 := hi.inF hz; have h2 := pw_pos z.2; omega)
   omega
 have B0 := h.a (blkO 0 0)
 have X0 := hide (bx_new w (0, 0))
 have F0 := hide (ballo (Below.refl w.heap.size w) (blkO 0 0))
 have O0 := hide (h.offNew (blkO 0 0))
 have s0 : (w.alloc (blkO 0 0)).heap.size = w.heap.size + 1 := by simp
 clear h hi
 unfold ptr
 go_enter Tryz.func82, Tryz.ntmps82
 go_wp2_with fail
 generalize w.alloc (blkO 0 0) = W at *
 obtain ⟨v1, e10, l1⟩ := B0.c1
 obtain ⟨p, c, rfl, hp⟩ := rl_row l1
 clear l1
 generalize hn : F.length = n at *
 go_loopw [6, 7] (fun s t wr => ∃ j : Nat, s = .int .i64 (bst o F j) ∧ t = .int .i64 j ∧ j ≤ n ∧ Hid (Below W.heap.size W wr)) (fun _ t _ => n - (RowKit.intOf t).toNat)
 case atStart => exact ⟨0, rfl, rfl, Nat.zero_le _, Below.refl _ _⟩
 case round =>
   obtain ⟨j, rfl, rfl, hj, hb⟩ := hrel
   have e1 := ((unhide hb).cell (p := ⟨b, 1, none⟩) B0.lt).trans e10
   have hjn0 : (0 : Int) ≤ j := by omega
   by_cases hjn : j < n
   · have hjn2 : (j : Int) < n := by omega
     have hjc2 : (j : Int) < c := by omega
     have hjL : j < F.length := by omega
     have hrng := bst_range o F j
     have hnx : bst o F (j + 1) = if o ≤ (F.getD j (0, 0)).2 ∧ (bst o F j < 0 ∨ (F.getD j (0, 0)).2 < (F.getD (bst o F j).toNat (0, 0)).2) then (j : Int) else bst o F j := rfl
     obtain ⟨g, rfl, hcap, hcap2, hr0⟩ := hp (by omega)
     have hr := hr0.b (unhide hb)
     have c1 := (hr.c j hjL).2
     have HNX := hide hnx
     have HR := hide hr
     generalize hy : (F.getD j (0, 0)).2 = y at *
     clear hnx hr hr0 hp hy
     by_cases ho : o ≤ y
     · have d1 : decide (o ≤ y) = true := by simpa using ho
       by_cases hβ : bst o F j < 0
       · have d2 : decide (bst o F j < 0) = true := by simpa using hβ
         have hN2 : Hid (bst o F (j + 1) = j) := by show _ = _; rw [unhide HNX, if_pos ⟨ho, Or.inl hβ⟩]
         clear HNX HR hrng
         generalize bst o F j = β at *
         go_wp2_with fail
         go_quiet (fail)
         go_wp2
         go_roundw
         case rel => exact ⟨j + 1, by rw [unhide hN2], by go_num, by omega, bdrN (unhide hb) _⟩
         case measure => simp [RowKit.intOf]; omega
       · obtain ⟨m, hm⟩ : ∃ m : Nat, bst o F j = (m : Int) := ⟨(bst o F j).toNat, by omega⟩
         have hmL : m < F.length := by omega
         have c2 := ((unhide HR).c m hmL).2
         have hm0 : (0 : Int) ≤ m := by omega
         have hmn : (m : Int) < n := by omega
         have hmc : (m : Int) < c := by omega
         have d2 : decide ((m : Int) < 0) = false := by simp
         have hnx := unhide HNX
         rw [hm] at hnx ⊢
         rw [show ((m : Int)).toNat = m by omega] at hnx
         have HNX := hide hnx
         generalize hz : (F.getD m (0, 0)).2 = z at *
         by_cases hyz : y < z
         · have d3 : decide (y < z) = true := by simpa using hyz
           have hN2 : Hid (bst o F (j + 1) = j) := by show _ = _; rw [unhide HNX, if_pos ⟨ho, Or.inr hyz⟩]
           clear HNX HR hrng hnx hm hz
           go_wp2_with fail
           go_quiet (fail)
           go_wp2
           go_roundw
           case rel => exact ⟨j + 1, by rw [unhide hN2], by go_num, by omega, bdrN (unhide hb) _⟩
           case measure => simp [RowKit.intOf]; omega
         · have d3 : decide (y < z) = false := by simpa using hyz
           have hN2 : Hid (bst o F (j + 1) = m) := by show _ = _; rw [unhide HNX, if_neg (by intro q; rcases q.2 with q | q; omega; exact hyz q)]
           clear HNX HR hrng hnx hm hz
           go_wp2_with fail
           go_quiet (fail)
           go_wp2
           go_roundw
           case rel => exact ⟨j + 1, by rw [unhide hN2], by go_num, by omega, bdrN (unhide hb) _⟩
           case measure => simp [RowKit.intOf]; omega
     · have d1 : decide (o ≤ y) = false := by simpa using ho
       have hN2 : Hid (bst o F (j + 1) = bst o F j) := by show _ = _; rw [unhide HNX, if_neg (by intro q; exact ho q.1)]
       clear HNX HR
       generalize hβ : bst o F j = β at *
       go_wp2_with fail
       go_quiet (fail)
       go_wp2
       go_roundw
       case rel => exact ⟨j + 1, by rw [unhide hN2], by go_num, by omega, bdrN (unhide hb) _⟩
       case measure => simp [RowKit.intOf]; omega
   · have hjn2 : ¬ (j : Int) < n := by omega
     have hje : j = F.length := by omega
     have hβ : bst o F j < 0 := by
       by_cases hb0 : bst o F j < 0
       · exact hb0
       · obtain ⟨hbb, hs⟩ := bst_some (o := o) (L := F) (by rw [← hje]; omega)
         rw [hf] at hs; cases hs
     have d2 : decide (bst o F j < 0) = true := by simpa using hβ
     have X := (unhide X0).b (unhide hb)
     have F2 := (unhide F0).trans ((unhide hb).mono (by omega))
     have x0 := X.c0
     have x1 := X.c1
     have x2 := X.f0
     have x3 := X.f1
     simp only at x0 x1
     clear hβ hf X
     generalize bst o F j = β at *
     go_wp2
     exact bodyPost_ret (v := .tuple #[blkV 0 0, .bool false]) (by simp [results, Tryz.results82, go_sem, x0, x1]) rfl ⟨rfl, (F2.setCell (by simp) _).setCell (by simp) _⟩
set_option maxRecDepth 100000 in
set_option maxHeartbeats 8000000 in
theorem rtake_ok (b : Nat) (N : Int) (F T : List Bl) (o : Int) (x : Bl) (w : World) (h : RB w b N F T) (hi : Inv N F T) (hN : N ≤ 256) (h0 : 0 ≤ o) (hf : fit o F = some x) :
   Calls Tryz.prog 82 #[ptr b, .int .i64 o] w fun ev w' => ev = .returned (.tuple #[blkV x.1 o, .bool true]) ∧ RB w' b N (takeF o x F) (ins (x.1, o) T) ∧ Kept b b w w' := by
 obtain ⟨hxF, hkx⟩ := fit_some hf
 have hlen : F.length ≤ 256 := by
   have := srt_len hi.sF (a := 0) (b := 256) (fun z hz => by have h1 := hi.inF hz; have h2 := pw_pos z.2; omega)
   omega
 have B0 := h.a (blkO 0 0)
 have X0 := hide (bx_new w (0, 0))
 have F0 := hide (ballo (Below.refl w.heap.size w) (blkO 0 0))
 have O0 := hide (h.offNew (blkO 0 0))
 have s0 : (w.alloc (blkO 0 0)).heap.size = w.heap.size + 1 := by simp
 have HSF := hide hi.sF
 have hTl : Hid (T.length ≤ 256) := by
   show T.length ≤ 256
   have := srt_len hi.sT (a := 0) (b := 256) (fun z hz => by have := hi.small hN hz; omega)
   omega
 have HI0 := hide (hi.outF hxF)
 have hsm := (hi.outF hxF).smallX hN
 have HR : Hid (takeF o x F = halveF (x.2 - o).toNat x.1 x.2 (del x.1 F)) := rfl
 obtain ⟨R, hR⟩ : ∃ R, R = takeF o x F := ⟨_, rfl⟩
 rw [← hR] at HR ⊢
 have hbw := h.lt
 have hne : w.heap.size ≠ b := by omega
 clear h hi hR hxF
 obtain ⟨a, j0⟩ := x
 simp only at *
 unfold ptr
 go_enter Tryz.func82, Tryz.ntmps82
 go_wp2_with fail
 generalize w.alloc (blkO 0 0) = W at *
 obtain ⟨v1, e10, l1⟩ := B0.c1
 obtain ⟨p, c, rfl, hp⟩ := rl_row l1
 have L1 := hide l1
 clear l1
 generalize hn : F.length = n at *
 go_loopw [6, 7] (fun s t wr => ∃ j : Nat, s = .int .i64 (bst o F j) ∧ t = .int .i64 j ∧ j ≤ n ∧ Hid (Below W.heap.size W wr)) (fun _ t _ => n - (RowKit.intOf t).toNat)
 case atStart => exact ⟨0, rfl, rfl, Nat.zero_le _, Below.refl _ _⟩
 case round =>
   obtain ⟨j, rfl, rfl, hj, hb⟩ := hrel
   have e1 := ((unhide hb).cell (p := ⟨b, 1, none⟩) B0.lt).trans e10
   have hjn0 : (0 : Int) ≤ j := by omega
   by_cases hjn : j < n
   · have hjn2 : (j : Int) < n := by omega
     have hjc2 : (j : Int) < c := by omega
     have hjL : j < F.length := by omega
     have hrng := bst_range o F j
     have hnx : bst o F (j + 1) = if o ≤ (F.getD j (0, 0)).2 ∧ (bst o F j < 0 ∨ (F.getD j (0, 0)).2 < (F.getD (bst o F j).toNat (0, 0)).2) then (j : Int) else bst o F j := rfl
     obtain ⟨g, rfl, hcap, hcap2, hr0⟩ := hp (by omega)
     have hr := hr0.b (unhide hb)
     have c1 := (hr.c j hjL).2
     have HNX := hide hnx
     have HR := hide hr
     generalize hy : (F.getD j (0, 0)).2 = y at *
     clear hnx hr hr0 hp hy
     by_cases ho : o ≤ y
     · have d1 : decide (o ≤ y) = true := by simpa using ho
       by_cases hβ : bst o F j < 0
       · have d2 : decide (bst o F j < 0) = true := by simpa using hβ
         have hN2 : Hid (bst o F (j + 1) = j) := by show _ = _; rw [unhide HNX, if_pos ⟨ho, Or.inl hβ⟩]
         clear HNX HR hrng
         generalize bst o F j = β at *
         go_wp2_with fail
         go_quiet (fail)
         go_wp2
         go_roundw
         case rel => exact ⟨j + 1, by rw [unhide hN2], by go_num, by omega, bdrN (unhide hb) _⟩
         case measure => simp [RowKit.intOf]; omega
       · obtain ⟨m, hm⟩ : ∃ m : Nat, bst o F j = (m : Int) := ⟨(bst o F j).toNat, by omega⟩
         have hmL : m < F.length := by omega
         have c2 := ((unhide HR).c m hmL).2
         have hm0 : (0 : Int) ≤ m := by omega
         have hmn : (m : Int) < n := by omega
         have hmc : (m : Int) < c := by omega
         have d2 : decide ((m : Int) < 0) = false := by simp
         have hnx := unhide HNX
         rw [hm] at hnx ⊢
         rw [show ((m : Int)).toNat = m by omega] at hnx
         have HNX := hide hnx
         generalize hz : (F.getD m (0, 0)).2 = z at *
         by_cases hyz : y < z
         · have d3 : decide (y < z) = true := by simpa using hyz
           have hN2 : Hid (bst o F (j + 1) = j) := by show _ = _; rw [unhide HNX, if_pos ⟨ho, Or.inr hyz⟩]
           clear HNX HR hrng hnx hm hz
           go_wp2_with fail
           go_quiet (fail)
           go_wp2
           go_roundw
           case rel => exact ⟨j + 1, by rw [unhide hN2], by go_num, by omega, bdrN (unhide hb) _⟩
           case measure => simp [RowKit.intOf]; omega
         · have d3 : decide (y < z) = false := by simpa using hyz
           have hN2 : Hid (bst o F (j + 1) = m) := by show _ = _; rw [unhide HNX, if_neg (by intro q; rcases q.2 with q | q; omega; exact hyz q)]
           clear HNX HR hrng hnx hm hz
           go_wp2_with fail
           go_quiet (fail)
           go_wp2
           go_roundw
           case rel => exact ⟨j + 1, by rw [unhide hN2], by go_num, by omega, bdrN (unhide hb) _⟩
           case measure => simp [RowKit.intOf]; omega
     · have d1 : decide (o ≤ y) = false := by simpa using ho
       have hN2 : Hid (bst o F (j + 1) = bst o F j) := by show _ = _; rw [unhide HNX, if_neg (by intro q; exact ho q.1)]
       clear HNX HR
       generalize hβ : bst o F j = β at *
       go_wp2_with fail
       go_quiet (fail)
       go_wp2
       go_roundw
       case rel => exact ⟨j + 1, by rw [unhide hN2], by go_num, by omega, bdrN (unhide hb) _⟩
       case measure => simp [RowKit.intOf]; omega
   · have hjn2 : ¬ (j : Int) < n := by omega
     have hje : j = F.length := by omega
     obtain ⟨m, hmL, hbm, hmx⟩ : ∃ m : Nat, ∃ h : m < F.length, bst o F j = (m : Int) ∧ F[m] = (a, j0) := by
       have hβ0 : 0 ≤ bst o F F.length := by
         by_cases hb0 : 0 ≤ bst o F F.length
         · exact hb0
         · have := bst_none (o := o) (L := F) (by omega)
           rw [hf] at this; cases this
       obtain ⟨hbb, hs⟩ := bst_some hβ0
       rw [hf] at hs
       exact ⟨_, hbb, by rw [hje]; omega, (Option.some.inj hs).symm⟩
     rw [hbm]
     obtain ⟨g, rfl, hcap, hcap2, hr0⟩ := hp (by omega)
     have cc := (hr0.b (unhide hb)).c m hmL
     rw [getD_lt hmL, hmx] at cc
     obtain ⟨c1, c2⟩ := cc
     simp only at c1 c2
     have hm0 : (0 : Int) ≤ m := by omega
     have hmn : (m : Int) < n := by omega
     have hmc : (m : Int) < c := by omega
     have d2 : decide ((m : Int) < 0) = false := by simp
     have BW := B0.b (unhide hb)
     have B1 := BW.a (blkO a j0)
     have X1 := hide (((unhide X0).b (unhide hb)).a (blkO a j0))
     have XB := hide (bx_new wr (a, j0))
     have O1 := hide (((unhide O0).b B0.lt (unhide hb)).b BW.lt (ballo (Below.refl _ _) (blkO a j0)))
     have OB := hide (BW.offNew (blkO a j0))
     have F1 := hide (kept_of (ballo ((unhide F0).trans ((unhide hb).mono (by omega))) (blkO a j0)) : Kept b b w (wr.alloc (blkO a j0)))
     have hxl : w.heap.size < wr.heap.size := ((unhide X0).b (unhide hb)).lt
     have hxl2 : wr.heap.size < (wr.alloc (blkO a j0)).heap.size := by simp
     have hbl1 := B1.lt
     have e3 : (wr.alloc (blkO a j0)).cell? ⟨b, 1, none⟩ = some (.slice (some ⟨g, 0, none⟩) n c) := ((ballo (Below.refl wr.heap.size wr) (blkO a j0)).cell (p := ⟨b, 1, none⟩) BW.lt).trans e1
     have ff := B1.f1
     have H25 := without_all b (.slice (some ⟨g, 0, none⟩) n c) F m (wr.alloc (blkO a j0)) (((unhide L1).b (unhide hb)).b (ballo (Below.refl _ _) _)) (unhide HSF) (by omega) hmL
     rw [show F[m].1 = a by rw [hmx]] at H25
     have H25 := hide H25
     have BH1 := hide B1
     clear BW B1 B0 X0 O0 F0 L1 hr0 hp hbm hmx hf s0 hb e10 HSF
     go_wp2_with fail
     refine (unhide H25).mono ?_
     rintro ev w4 ⟨p4, m4, c4, rfl, l4, b4⟩
     have y4 := (b4.cell (p := ⟨b, 1, none⟩) hbl1).trans e3
     have z4 := (b4.frozen (p := ⟨b, 1, none⟩) hbl1).trans ff
     have hxb : wr.heap.size ≠ b := by omega
     have B4 := hide (((unhide BH1).b b4).putF (l4 b hbl1))
     have O4 := hide (((unhide BH1).b b4).offF ((unhide O1).b hbl1 b4) (l4 b hbl1) (l4 _ (by omega)))
     have OB4 := hide (((unhide BH1).b b4).offF ((unhide OB).b hbl1 b4) (l4 b hbl1) (l4 _ hxl2))
     have X4 := hide (((unhide X1).b b4).off hne 1 (.slice p4 m4 c4))
     have XB4 := hide (((unhide XB).b b4).off hxb 1 (.slice p4 m4 c4))
     have F4 := (unhide F1).trans ((kept_of b4).trans (kept_set w4 1 (.slice p4 m4 c4)))
     clear BH1 O1 OB X1 XB F1 b4 l4 H25 e3 ff c1 c2 e1 hxl2 hbl1
     go_wp2_with fail
     generalize wr.heap.size = xb at *
     go_loopw [] (fun wr => ∃ (j : Int) (G : List Bl), o ≤ j ∧ j ≤ 6 ∧ Hid (HInv N G T (a, j)) ∧ Hid (R = halveF (j - o).toNat a j G) ∧ Hid (Bx wr w.heap.size (0, 0)) ∧ Hid (Bx wr xb (a, j)) ∧ Hid (RB wr b N G T) ∧ Hid (Off wr b w.heap.size) ∧ Hid (Off wr b xb) ∧ Kept b b w wr) (fun wr => (RowKit.intOf ((wr.cell? ⟨xb, 1, none⟩).getD undef)).toNat)
     case atStart => exact ⟨j0, del a F, hkx, hsm.2.2.2, HI0, HR, X4, XB4, B4, O4, OB4, F4⟩
     case round =>
       clear B4 X4 XB4 O4 OB4 F4 HI0 HR y4 z4
       obtain ⟨j2, G, hkj, hj6, hI, hR, h4, h5, hB, hO4, hO8, hk⟩ := hrel
       have y0 := (unhide h5).c0
       have y1 := (unhide h5).c1
       have y2 := (unhide h5).f0
       have y3 := (unhide h5).f1
       simp only at y0 y1
       have HY1 := hide y1
       have hsj := (unhide hI).smallX hN
       simp only at hsj
       by_cases hkj2 : o < j2
       · have dk : decide (o < j2) = true := by simpa using hkj2
         have hin := (unhide hI).inX
         have hox := (unhide hI).ox
         unfold Okb at hox
         simp only at hin hox
         have hhd := half_dvd (by omega : 1 ≤ j2) hox.2.2
         have hpp := pw_pos (j2 - 1)
         have hal1 : al a (j2 - 1) = true := (al_dvd _ _).2 hhd.1
         have hd1 : pw (j2 - 1 + 1) ∣ a := by rw [show j2 - 1 + 1 = j2 by omega]; exact hox.2.2
         have hblw := bud_low (a := a) (k := j2 - 1) (by omega) hd1
         have HBU := fun w => rbuddy_ok a (j2 - 1) w hsj.1 hsj.2.1 (by omega) (by omega) hal1
         rw [hblw] at HBU
         have HI2 := hide ((unhide hI).halve (by omega))
         have hR2 : Hid (R = halveF (j2 - 1 - o).toNat a (j2 - 1) (ins (a + pw (j2 - 1), j2 - 1) G)) := by
           have := unhide hR
           rw [show (j2 - o).toNat = (j2 - 1 - o).toNat + 1 by omega] at this
           exact this
         have hoff : ∀ y ∈ G, y.1 ≠ a + pw (j2 - 1) := fun y hy => by
           have := (unhide hI).offF hy
           simp only at this
           omega
         have hlg : G.length ≤ 256 := by
           have := srt_len (unhide hI).sF (a := 0) (b := 256) (fun z hz => by have h1 := (unhide hI).inF hz; have h2 := pw_pos z.2; omega)
           omega
         obtain ⟨a2, j3, HA2, HJ3⟩ : ∃ a2 j3, Hid (a2 = a + pw (j2 - 1)) ∧ Hid (j3 = j2 - 1) := ⟨_, _, rfl, rfl⟩
         rw [← unhide HA2, ← unhide HJ3] at HBU HI2 hR2
         rw [← unhide HA2] at hoff
         have hji : j2 - 1 = j3 := (unhide HJ3).symm
         have HBU := hide HBU
         have HOFF := hide hoff
         clear hin hox hhd hpp hal1 hd1 hblw hI hR hoff
         have bb := (unhide hB).box (unhide hO8) hxb 0 (.int .i64 a)
         have bb2 := bb.1.box bb.2 hxb 1 (.int .i64 j3)
         have B5 := bb2.1
         have O85 := hide bb2.2
         have O45 := hide (((unhide hO4).box2 (unhide hO8) hxb 0 (.int .i64 a)).box2 bb.2 hxb 1 (.int .i64 j3))
         have X45 := hide (((unhide h4).off (by omega) 0 (.int .i64 a)).off (by omega) 1 (.int .i64 j3) : Bx ((wr.setCell ⟨xb, 0, none⟩ (.int .i64 a)).setCell ⟨xb, 1, none⟩ (.int .i64 j3)) w.heap.size (0, 0))
         have X85 := hide ((unhide h5).set (a, j3))
         have F5 := hide ((hk.setNew (Nat.le_of_lt hxl) 0 (.int .i64 a)).setNew (Nat.le_of_lt hxl) 1 (.int .i64 j3))
         clear bb bb2 hB hO4 hO8 h4 h5 hk
         go_wp2_with fail
         generalize (wr.setCell ⟨xb, 0, none⟩ (.int .i64 a)).setCell ⟨xb, 1, none⟩ (.int .i64 j3) = W5 at *
         clear y0 y1 y2 y3
         obtain ⟨v1, e1, l1⟩ := B5.c1
         have hbl5 := B5.lt
         have x0 := (unhide X85).c0
         have x1 := (unhide X85).c1
         simp only at x0 x1
         have HW := hide (fun w1 (hb : Below W5.heap.size W5 w1) => with_all b v1 G (a2, j3) w1 (l1.b hb) hlg (unhide HOFF))
         have KE := hide (fun w1 (hb : Below W5.heap.size W5 w1) => (⟨(hb.cell (p := ⟨b, 1, none⟩) hbl5).trans e1, (hb.frozen (p := ⟨b, 1, none⟩) hbl5).trans B5.f1⟩ : w1.cell? ⟨b, 1, none⟩ = some v1 ∧ w1.frozen? ⟨b, 1, none⟩ = false))
         have BH := hide B5
         clear l1 B5 hlg
         go_region_with ((first
           | (go_at_call 135; refine ((unhide HBU) _).mono ?_; rintro ev w6 ⟨rfl, b6⟩; have f6 : Below W5.heap.size W5 w6 := bd b6; have e6 := ((unhide KE) w6 f6).1)
           | (go_at_call 134; refine ((unhide HW) w6 f6).mono ?_; rintro ev w7 ⟨p7, m7, c7, rfl, l7, b7⟩; have f7 : Below W5.heap.size W5 w7 := fwd f6 f6.size b7; have y8 := ((unhide KE) w7 f7).1; have z8 := ((unhide KE) w7 f7).2)))
         all_goals
           have q1 : b < w6.heap.size := Nat.lt_of_lt_of_le hbl5 f6.size
           have q2 : w.heap.size < w6.heap.size := Nat.lt_of_lt_of_le (unhide X45).lt f6.size
           have q3 : xb < w6.heap.size := Nat.lt_of_lt_of_le (unhide X85).lt f6.size
           have B7 := hide (((unhide BH).b f7).putF (l7 b q1))
           have O47 := hide (((unhide BH).b f7).offF ((unhide O45).b hbl5 f7) (l7 b q1) (l7 _ q2))
           have O87 := hide (((unhide BH).b f7).offF ((unhide O85).b hbl5 f7) (l7 b q1) (l7 _ q3))
           have X47 := hide (((unhide X45).b f7).off hne 1 (.slice p7 m7 c7))
           have X87 := hide (((unhide X85).b f7).off hxb 1 (.slice p7 m7 c7))
           have F7 := (unhide F5).trans ((kept_of f7).trans (kept_set w7 1 (.slice p7 m7 c7)))
           clear HW KE HBU BH O45 O85 X45 X85 F5 l7 b7 b6 y8 z8
           go_wp2
           go_roundw
           case rel => exact ⟨j3, _, by omega, by omega, HI2, hR2, X47, X87, B7, O47, O87, F7⟩
           case measure =>
             have m1 := (unhide X87).c1
             simp only at m1
             rw [m1, unhide HY1]; simp [RowKit.intOf]; omega
       · have hjo : j2 = o := by omega
         subst hjo
         have dk : decide (j2 < j2) = false := by simp
         have hRe : Hid (R = G) := by have := unhide hR; rw [show (j2 - j2).toNat = 0 by omega] at this; exact this
         have hoff := hide (fun (y : Bl) (hy : y ∈ T) => (by have h1 := (unhide hI).offT hy; have h2 := pw_pos j2; simp only at h1; omega : y.1 ≠ a))
         have B5 := unhide hB
         obtain ⟨v2, e2, l2⟩ := B5.c2
         have hbl5 := B5.lt
         have HW := hide (fun w1 (hb : Below wr.heap.size wr w1) => with_all b v2 T (a, j2) w1 (l2.b hb) (unhide hTl) (unhide hoff))
         have KE := hide (fun w1 (hb : Below wr.heap.size wr w1) => (⟨(hb.cell (p := ⟨b, 2, none⟩) hbl5).trans e2, (hb.frozen (p := ⟨b, 2, none⟩) hbl5).trans B5.f2⟩ : w1.cell? ⟨b, 2, none⟩ = some v2 ∧ w1.frozen? ⟨b, 2, none⟩ = false))
         clear l2 B5 hI hR y2 y3
         go_wp2_with fail
         go_region_with ((go_at_call 134; refine ((unhide HW) _ (drw wr)).mono ?_; rintro ev w7 ⟨p7, m7, c7, rfl, l7, b7⟩; have f7 : Below wr.heap.size wr w7 := bd b7; have y8 := ((unhide KE) w7 f7).1; have z8 := ((unhide KE) w7 f7).2))
         all_goals
           have q2 : w.heap.size < wr.heap.size := (unhide h4).lt
           have B7 := ((unhide hB).b f7).putT (l7 b hbl5)
           have O47 := ((unhide hB).b f7).offT ((unhide hO4).b hbl5 f7) (l7 b hbl5) (l7 _ q2)
           have bb := B7.box O47 hne 0 (.int .i64 a)
           have bb2 := hide (bb.1.box bb.2 hne 1 (.int .i64 j2)).1
           have X47 := ((unhide h4).b f7).off hne 2 (.slice p7 m7 c7)
           have X87 := ((unhide h5).b f7).off hxb 2 (.slice p7 m7 c7)
           have F7 := hk.trans ((kept_of f7).trans (kept_set w7 2 (.slice p7 m7 c7)))
           have l0 := X87.c0
           have l1 := X87.c1
           have p0 := X47.c0
           have p1 := X47.c1
           have p2 := X47.f0
           have p3 := X47.f1
           simp only at l0 l1 p0 p1
           clear HW KE hB hO4 hO8 h4 h5 B7 O47 bb X47 X87 l7 b7 y0 y1
           go_wp2
           refine bodyPost_ret (v := .tuple #[blkV a j2, .bool true]) (by simp [results, Tryz.results82, go_sem, p0, p1]) rfl ⟨rfl, ?_, (F7.setNew (Nat.le_refl _) _ _).setNew (Nat.le_refl _) _ _⟩
           rw [unhide hRe]
           exact unhide bb2
end Bd
end Go.Proofs.YtfefehkapffljaaGreatDoor
namespace Go.Proofs.YtfefehkapffljaaGreatDoor
open Go.RowKit
attribute [local go_sem ↓] Go.wp_at_zero Go.wp_at_succ
namespace Bd
open Fr
theorem pgs_append : ∀ (a b : List Bl), pgs (a ++ b) = pgs a + pgs b
 | [], b => by simp [pgs]
 | x :: a, b => by have := pgs_append a b; simp [pgs]; omega
theorem pgs_take {L : List Bl} {j : Nat} (h : j < L.length) : pgs (L.take (j + 1)) = pgs (L.take j) + pw L[j].2 := by
 rw [List.take_succ_eq_append_getElem h, pgs_append]; simp [pgs]
set_option maxRecDepth 100000 in
set_option maxHeartbeats 4000000 in
theorem rfree_ok (b : Nat) (N : Int) (F T : List Bl) (w : World) (h : RB w b N F T) (hl : F.length ≤ 256) (hF : ∀ x ∈ F, 0 ≤ x.2 ∧ x.2 ≤ 6) :
   Calls Tryz.prog 83 #[ptr b] w fun ev w' => ev = .returned (.int .i64 (pgs F)) ∧ Below w.heap.size w w' := by
 have hbl := h.lt
 obtain ⟨v1, e10, l1⟩ := h.c1
 obtain ⟨p, c, rfl, hp⟩ := rl_row l1
 have HG := hide hF
 clear l1 h hF
 unfold ptr
 generalize hn : F.length = n at *
 go_enter Tryz.func83, Tryz.ntmps83
 go_wp2_with fail
 go_loopw [3, 4] (fun s t wr => ∃ j : Nat, s = .int .i64 (pgs (F.take j)) ∧ t = .int .i64 j ∧ j ≤ n ∧ Hid (Below w.heap.size w wr)) (fun _ t _ => n - (RowKit.intOf t).toNat)
 case atStart => exact ⟨0, rfl, rfl, Nat.zero_le _, Below.refl _ _⟩
 case round =>
   obtain ⟨j, rfl, rfl, hj, hb⟩ := hrel
   have e1 := ((unhide hb).cell (p := ⟨b, 1, none⟩) hbl).trans e10
   have hjn0 : (0 : Int) ≤ j := by omega
   have hbd := pgs_bd (l := F.take j) (fun x hx => (unhide HG) x (List.mem_of_mem_take hx))
   rw [List.length_take] at hbd
   by_cases hjn : j < n
   · have hjn2 : (j : Int) < n := by omega
     have hjL : j < F.length := by omega
     obtain ⟨g, rfl, hcap, hcap2, hr0⟩ := hp (by omega)
     have hjc2 : (j : Int) < c := by omega
     have c1 := ((hr0.b (unhide hb)).c j hjL).2
     rw [getD_lt hjL] at c1
     have hx := (unhide HG) F[j] (List.getElem_mem hjL)
     have hpt := hide (pgs_take hjL)
     have hpw := pw_le6 F[j].2 hx.1 hx.2
     have hpp := pw_pos F[j].2
     have hmin : min j F.length ≤ 256 := by omega
     have hbb : 0 ≤ pgs (F.take j) ∧ pgs (F.take j) ≤ 64 * 256 := ⟨hbd.1, by omega⟩
     generalize F[j].2 = y at *
     have HP := hide (fun w => pages_ok y w hx.1 hx.2)
     generalize pw y = q at *
     generalize hps : pgs (F.take j) = s at *
     clear hr0 hp hbd
     go_wp2_with (go_at_call 136; refine ((unhide HP) _).mono ?_; rintro ev w3 ⟨rfl, rfl⟩)
     go_roundw
     case rel => exact ⟨j + 1, by rw [unhide hpt], by go_num, by omega, unhide hb⟩
     case measure => simp [RowKit.intOf]; omega
   · have hjn2 : ¬ (j : Int) < n := by omega
     have hje : F.take j = F := List.take_of_length_le (by omega)
     rw [hje]
     clear hbd hje
     generalize hps : pgs F = s at *
     have HPS := hide hps
     clear hps
     go_wp2
     go_ret
     exact ⟨by rw [unhide HPS]; rfl, unhide hb⟩
set_option maxHeartbeats 4000000 in
theorem rnew_ok (N : Int) (w : World) (h1 : 1 ≤ N) (h2 : N ≤ 256) :
   Calls Tryz.prog 66 #[.int .i64 N] w fun ev w' => ∃ b, ev = .returned (ptr b) ∧ RB w' b N (cv 0 N) [] ∧ w.heap.size ≤ b ∧ Below w.heap.size w w' := by
 have HC := hide (fun w => rcover_ok 0 N w (by omega) (by omega) (by omega))
 generalize cv 0 N = F at *
 unfold ptr
 go_enter Tryz.func66, Tryz.ntmps66
 go_wp2_with fail
 refine (unhide HC _).mono ?_
 rintro ev w2 ⟨v, rfl, hrow, b2, hnil⟩
 have hl : ∀ b, b < w.heap.size ∨ w2.heap.size ≤ b → RL w2 b v F := by
   intro b hb
   by_cases hF : F = []
   · exact Or.inl ⟨hF, hnil hF⟩
   · obtain ⟨g, cap, hv, hg, hcap, hcap2, hr⟩ := rowt_of hrow hF
     have := hr.lt
     exact Or.inr ⟨g, cap, hv, by omega, hcap, hcap2, hF, hr⟩
 obtain ⟨p, m, c, rfl, _⟩ := rl_slice (hl w2.heap.size (Or.inr (Nat.le_refl _)))
 have hs := b2.size
 clear HC
 go_wp2_with fail
 go_ret
 have q0 := World.cell?_alloc_new w2 #[.int .i64 N, .slice p m c, .slice none 0 0] 213 0
 have q1 := World.cell?_alloc_new w2 #[.int .i64 N, .slice p m c, .slice none 0 0] 213 1
 have q2 := World.cell?_alloc_new w2 #[.int .i64 N, .slice p m c, .slice none 0 0] 213 2
 exact ⟨w2.heap.size, rfl, ⟨q0, ⟨_, q1, (hl _ (Or.inr (Nat.le_refl _))).b (ballo (Below.refl _ _) _)⟩, ⟨_, q2, Or.inl ⟨rfl, rfl⟩⟩, by simp, by simp, by simp, tag_new _ _ _⟩, hs, ballo b2 _⟩
set_option maxRecDepth 100000 in
set_option maxHeartbeats 8000000 in
theorem as_buddy (b fm tm c : Nat) (N : Int) (F T : List Bl) (w : World) (hb : Bud w b fm tm N F T) (hr : RB w c N F T) (hF : F.length ≤ 256) (hT : T.length ≤ 256) (hG : ∀ x ∈ F, 0 ≤ x.2 ∧ x.2 ≤ 6) :
   Calls Tryz.prog 94 #[ptr b, ptr c] w fun ev w' => ev = .returned (.bool true) ∧ Below w.heap.size w w' := by
 have HP := hide (pages_free b fm tm N F T w hb)
 have HB := hide hb
 have HR := hide hr
 clear hb hr
 generalize hpg : pgs F = s at *
 have HPG := hide hpg
 clear hpg
 have hq : ∀ x : Nat, ptr x = .pointer (some ⟨x, 0, none⟩) := fun _ => rfl
 rw [hq b, hq c]
 go_enter Tryz.func94, Tryz.ntmps94
 go_wp2_with fail
 refine (unhide HP).mono ?_
 rintro ev w2 ⟨rfl, b2⟩
 clear HP
 have B2 := (unhide HB).b b2
 have R2 := (unhide HR).b b2
 obtain ⟨v1, e1, l1⟩ := R2.c1
 obtain ⟨v2, e2, l2⟩ := R2.c2
 have e0 := R2.c0
 have hrl := R2.lt
 have KC := hide (fun w1 (hb : Below w2.heap.size w2 w1) => (⟨(hb.cell (p := ⟨c, 1, none⟩) hrl).trans e1, (hb.cell (p := ⟨c, 2, none⟩) hrl).trans e2, (hb.cell (p := ⟨c, 0, none⟩) hrl).trans e0⟩ : w1.cell? ⟨c, 1, none⟩ = some v1 ∧ w1.cell? ⟨c, 2, none⟩ = some v2 ∧ w1.cell? ⟨c, 0, none⟩ = some (.int .i64 N)))
 have H17 := hide (fun w1 (hb : Below w2.heap.size w2 w1) => free_ok b fm tm N F T w1 (B2.b hb))
 have H34 := hide (fun w1 (hb : Below w2.heap.size w2 w1) => taken_ok b fm tm N F T w1 (B2.b hb))
 have H35 := hide (fun w1 (hb : Below w2.heap.size w2 w1) => rfree_ok c N F T w1 (R2.b hb) hF hG)
 have HS1 := hide (fun w1 u (hb : Below w2.heap.size w2 w1) (hu : Lies w1 u F) => same_blocks u v1 F w1 hF hu (l1.lies.b hb))
 have HS2 := hide (fun w1 u (hb : Below w2.heap.size w2 w1) (hu : Lies w1 u T) => same_blocks u v2 T w1 hT hu (l2.lies.b hb))
 rw [unhide HPG] at H35
 have K0 := (unhide KC) w2.drew (drw w2)
 have HBW := hide b2
 clear B2 R2 e1 e2 e0 l1 l2 b2 HB HR
 have tk1 : True := trivial
 go_wp2_with fail
 go_region_held3 (fun w' => w'.cell? ⟨c, 1, none⟩ = some v1 ∧ w'.cell? ⟨c, 2, none⟩ = some v2 ∧ w'.cell? ⟨c, 0, none⟩ = some (.int .i64 N)) ((first | (go_keep; done) | (exact (unhide KC) _ (by assumption)))) ((first
   | (go_at_call 74; refine ((unhide H17) _ (drw w2)).mono ?_; rintro ev w3 ⟨u3, rfl, o3, n3, b3⟩; have f3 : Below w2.heap.size w2 w3 := bd b3; have L3 := lies_of o3 n3; clear o3 n3 b3)
   | (go_at_call 144; have _t := tk1; refine ((unhide HS1) w3 u3 f3 L3).mono ?_; rintro ev w4 ⟨rfl, b4⟩; have f4 : Below w2.heap.size w2 w4 := fwd f3 f3.size b4; clear tk1 b4)
   | (go_at_call 145; refine ((unhide H34) w4 f4).mono ?_; rintro ev w5 ⟨u5, rfl, o5, n5, b5⟩; have f5 : Below w2.heap.size w2 w5 := fwd f4 f4.size b5; have L5 := lies_of o5 n5; clear o5 n5 b5)
   | (go_at_call 144; refine ((unhide HS2) w5 u5 f5 L5).mono ?_; rintro ev w6 ⟨rfl, b6⟩; have f6 : Below w2.heap.size w2 w6 := fwd f5 f5.size b6; clear b6)
   | (go_at_call 83; refine ((unhide H35) w6 f6).mono ?_; rintro ev w7 ⟨rfl, b7⟩; have f7 : Below w2.heap.size w2 w7 := fwd f6 f6.size b7; clear b7)))
 go_wp2
 go_ret
 exact ⟨rfl, btr (unhide HBW) f7⟩
end Bd
end Go.Proofs.YtfefehkapffljaaGreatDoor
