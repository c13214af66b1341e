/- FramesBlocks: its walk, over the contracts. -/
import Derived.Test.YtbbfceolamglkaaDoorBlocks2
import Derived.Test.YtbbfceolamglkaaDoorCode
namespace Go.Proofs.YtbbfceolamglkaaDoor
open Go.RowKit
namespace Fr

/-- What Check answers, as a value. -/
def blockV (e : Nat → Addr) (a k p : Int) : Value := if blockE a k p = 0 then .nilIface else errV (e (blockE a k p))
theorem check_v (a k p : Int) (w : World) (e : Nat → Addr) (he : Errs w e) :
    Calls Tryd.prog 13 #[.agg #[.int .i64 a, .int .i64 k], .int .i64 p] w fun ev w' => ev = .returned (blockV e a k p) ∧ Below w.heap.size w w' := check_any a k p w e he.three
theorem coded_v (a k p : Int) (w : World) (e : Nat → Addr) (he : Errs w e) :
    Calls Tryd.prog 10 #[blockV e a k p, .int .i64 (blockN a k p)] w fun ev w' => ev = .returned (.bool true) ∧ Below w.heap.size w w' := by
  unfold blockV blockN blockE
  by_cases c1 : p < 1 ∨ 256 < p ∨ k < 0 ∨ 6 < k
  · rw [if_pos c1, if_pos c1, if_neg (by omega)]; exact coded_sent 1 (by omega) 2 (by omega) w e he
  rw [if_neg c1, if_neg c1]
  by_cases c2 : a < 0 ∨ p - pw k < a
  · rw [if_pos c2, if_pos c2, if_neg (by omega)]; exact coded_sent 1 (by omega) 2 (by omega) w e he
  rw [if_neg c2, if_neg c2]
  by_cases c3 : al a k = true
  · rw [if_pos c3, if_pos c3, if_pos rfl]; exact coded_nil w
  · rw [if_neg c3, if_neg c3, if_neg (by omega)]; exact coded_sent 2 (by omega) 3 (by omega) w e he

/-- A block in memory reads so in every world where it lies. -/
theorem rd0 (b : Nat) (a k : Int) : ∀ w, Blk w b a k → w.cell? ⟨b, 0, none⟩ = some (.int .i64 a) := fun _ h => h.c0
theorem rd1 (b : Nat) (a k : Int) : ∀ w, Blk w b a k → w.cell? ⟨b, 1, none⟩ = some (.int .i64 k) := fun _ h => h.c1
theorem s4 {w w1 w2 : World} {e : Nat → Addr} {b : Nat} {a k : Int} (hb : Below w1.heap.size w1 w2) (h : Blk w1 b a k ∧ Errs w1 e ∧ Below w.heap.size w w1) : Blk w2 b a k ∧ Errs w2 e ∧ Below w.heap.size w w2 :=
  ⟨h.1.b hb, h.2.1.below hb, btr h.2.2 hb⟩
theorem s4d {w w1 : World} {e : Nat → Addr} {b : Nat} {a k : Int} (h : Blk w1 b a k ∧ Errs w1 e ∧ Below w.heap.size w w1) : Blk w1.drew b a k ∧ Errs w1.drew e ∧ Below w.heap.size w w1.drew :=
  s4 (Below.refl _ _).drew h
theorem s8 {w w1 w2 : World} {e : Nat → Addr} {b2 b9 b11 b13 b14 b16 : Nat} {a2 k2 a9 k9 a11 k11 a13 k13 a14 k14 a16 k16 : Int} (hb : Below w1.heap.size w1 w2)
    (h : Blk w1 b2 a2 k2 ∧ Blk w1 b9 a9 k9 ∧ Blk w1 b11 a11 k11 ∧ Blk w1 b13 a13 k13 ∧ Blk w1 b14 a14 k14 ∧ Blk w1 b16 a16 k16 ∧ Errs w1 e ∧ Below w.heap.size w w1) :
    Blk w2 b2 a2 k2 ∧ Blk w2 b9 a9 k9 ∧ Blk w2 b11 a11 k11 ∧ Blk w2 b13 a13 k13 ∧ Blk w2 b14 a14 k14 ∧ Blk w2 b16 a16 k16 ∧ Errs w2 e ∧ Below w.heap.size w w2 :=
  ⟨h.1.b hb, h.2.1.b hb, h.2.2.1.b hb, h.2.2.2.1.b hb, h.2.2.2.2.1.b hb, h.2.2.2.2.2.1.b hb, h.2.2.2.2.2.2.1.below hb, btr h.2.2.2.2.2.2.2 hb⟩
theorem s3 {w w1 w2 : World} {b13 b14 b17 : Nat} {a13 k13 a14 k14 a17 k17 : Int} (hb : Below w1.heap.size w1 w2)
    (h : Blk w1 b13 a13 k13 ∧ Blk w1 b14 a14 k14 ∧ Blk w1 b17 a17 k17 ∧ Below w.heap.size w w1) : Blk w2 b13 a13 k13 ∧ Blk w2 b14 a14 k14 ∧ Blk w2 b17 a17 k17 ∧ Below w.heap.size w w2 :=
  ⟨h.1.b hb, h.2.1.b hb, h.2.2.1.b hb, btr h.2.2.2 hb⟩
theorem low_bud (a k : Int) (_h0 : 0 ≤ a) (_h1 : a < 256) (k0 : 1 ≤ k) (k6 : k ≤ 6) (ha : al a k = true) : bud a (k - 1) = a + pw (k - 1) ∧ al a (k - 1) = true := by
  rw [al_iff] at *
  unfold bud
  rcases orders k (by omega) k6 with rfl | rfl | rfl | rfl | rfl | rfl | rfl
  all_goals first | omega | skip
  all_goals
    simp only [Int.reduceSub, pw0, pw1, pw2, pw3, pw4, pw5, pw6] at *
    refine ⟨?_, by omega⟩
    rw [if_pos (by omega)]

set_option maxHeartbeats 4000000 in
theorem blocks_ee (a k p : Int) (w : World) (e : Nat → Addr) (he : Errs w e) (i : Nat) (i1 : 1 ≤ i) (i2 : i < 10) (c1 : lowerE a k = i) (c2 : upperE a k = i) (hA : aloneN a k = i + 1) :
    Calls Tryd.prog 4 #[.agg #[.int .i64 a, .int .i64 k], .int .i64 p] w fun ev w' => ev = .returned (.bool true) ∧ Below w.heap.size w w' := by
  have n1 : lowerE a k ≠ 0 := by omega
  have n2 : upperE a k ≠ 0 := by omega
  have BE := fun w he => hide (buddy_err a k w e he n1)
  have PE := fun w he => hide (parent_err a k w e he n1)
  have HH := fun w he => hide (halves_err a k w e he n2)
  rw [c1] at BE PE
  rw [c2] at HH
  clear n1 n2 c1 c2
  have HC := fun w he => hide (check_v a k p w e he)
  have HN := fun w => hide (rb_any a k p w)
  have HK := fun w he => hide (coded_v a k p w e he)
  have HA := fun w => hide (ra_any a k w)
  generalize blockV e a k p = V at *
  generalize blockN a k p = BN at *
  rw [hA] at HA
  clear hA
  have HE := hide he
  clear he
  go_enter Tryd.func4, Tryd.ntmps4
  go_wp2_with fail
  refine (halved_true _).mono ?_
  rintro ev w1 ⟨rfl, b1⟩
  have S1 : Blk w1 w.heap.size a k ∧ Errs w1 e ∧ Below w.heap.size w w1 := ⟨(bl_new w a k).b b1, ((unhide HE).alloc _).below b1, btr (ballo (Below.refl _ _) _) b1⟩
  clear b1
  have r20 := rd0 w.heap.size a k
  have r21 := rd1 w.heap.size a k
  go_wp2_with fail
  go_region_held3 (fun w' => Blk w' w.heap.size a k ∧ Errs w' e ∧ Below w.heap.size w w') (first | exact s4 hbK (by assumption) | exact s4d (by assumption)) (first
    | (go_at_call 13; refine (unhide (HC _ (show _ ∧ Errs _ e ∧ _ by assumption).2.1)).mono ?_; rintro ev wK ⟨rfl, hbK⟩)
    | (go_at_call 14; refine (unhide (HN _)).mono ?_; rintro ev wK ⟨rfl, hbK⟩)
    | (go_at_call 10; refine (unhide (HK _ (show _ ∧ Errs _ e ∧ _ by assumption).2.1)).mono ?_; rintro ev wK ⟨rfl, hbK⟩))
  all_goals
    go_wp2_with fail
    refine (unhide (HA _)).mono ?_
    rintro ev w2 ⟨rfl, b2⟩
    have S2 := s4 b2 (show Blk wK w.heap.size a k ∧ Errs wK e ∧ Below w.heap.size w wK by assumption)
    have u2 := S2.1
    go_wp2_with fail
    refine (unhide (BE _ S2.2.1.three)).mono ?_
    rintro ev w3 ⟨rfl, b3⟩
    have E3 := S2.2.1.below b3
    have u3 := fun o => (u2.b b3).a o
    go_wp2_with fail
    refine (unhide (PE _ (E3.alloc _).three)).mono ?_
    rintro ev w4 ⟨rfl, b4⟩
    have E4 := (E3.alloc (blkO 0 0)).below b4
    have t9 := (bl_new w3 0 0).b b4
    have u4 := fun o => ((u3 (blkO 0 0)).b b4).a o
    clear u2
    go_wp2_with fail
    refine (unhide (HH _ (E4.alloc _).three)).mono ?_
    rintro ev w5 ⟨rfl, b5⟩
    have E5 := (E4.alloc (blkO 0 0)).below b5
    have F5 : Below w.heap.size w w5 := btr (ballo (btr (ballo (btr S2.2.2 b3) (blkO 0 0)) b4) (blkO 0 0)) b5
    have z2 := (((((u4 (blkO 0 0)).b b5).a (blkO 0 0)).a (blkO 0 0)).a (blkO 0 0))
    have z9 := (((((t9.a (blkO 0 0)).b b5).a (blkO 0 0)).a (blkO 0 0)).a (blkO 0 0))
    have z11 := (((((bl_new w4 0 0)).b b5).a (blkO 0 0)).a (blkO 0 0)).a (blkO 0 0)
    have z13 := ((bl_new w5 0 0).a (blkO 0 0)).a (blkO 0 0)
    have z14 : Blk (((w5.alloc (blkO 0 0)).alloc (blkO 0 0)).alloc (blkO 0 0)) (w5.heap.size + 1) 0 0 := by simpa using (bl_new (w5.alloc (blkO 0 0)) 0 0).a (blkO 0 0)
    have z16 : Blk (((w5.alloc (blkO 0 0)).alloc (blkO 0 0)).alloc (blkO 0 0)) (w5.heap.size + 1 + 1) 0 0 := by simpa using bl_new ((w5.alloc (blkO 0 0)).alloc (blkO 0 0)) 0 0
    have E6 := ((E5.alloc (blkO 0 0)).alloc (blkO 0 0)).alloc (blkO 0 0)
    have F6 : Below w.heap.size w (((w5.alloc (blkO 0 0)).alloc (blkO 0 0)).alloc (blkO 0 0)) := ballo (ballo (ballo F5 _) _) _
    clear u3 u4 t9 E3 E4 E5 F5 S2 b2 b3 b4 b5
    have r90 := rd0 w3.heap.size 0 0
    have r91 := rd1 w3.heap.size 0 0
    have r110 := rd0 w4.heap.size 0 0
    have r111 := rd1 w4.heap.size 0 0
    have r130 := rd0 w5.heap.size 0 0
    have r131 := rd1 w5.heap.size 0 0
    have r140 := rd0 (w5.heap.size + 1) 0 0
    have r141 := rd1 (w5.heap.size + 1) 0 0
    have r160 := rd0 (w5.heap.size + 1 + 1) 0 0
    have r161 := rd1 (w5.heap.size + 1 + 1) 0 0
    go_wp2_with fail
    refine (coded_sent i i2 _ rfl _ e E6).mono ?_
    rintro ev w7 ⟨rfl, b7⟩
    go_wp2_with fail
    refine (coded_sent i i2 _ rfl _ e (E6.below b7)).mono ?_
    rintro ev wX ⟨rfl, b8⟩
    have y2 := (z2.b b7).b b8
    have y9 := (z9.b b7).b b8
    have y11 := (z11.b b7).b b8
    have y13 := (z13.b b7).b b8
    have y14 := (z14.b b7).b b8
    have y16 := (z16.b b7).b b8
    have EX := (E6.below b7).below b8
    have FX := btr (btr F6 b7) b8
    clear z2 z9 z11 z13 z14 z16 E6 F6 b7 b8
    go_wp2_with fail
    refine (coded_sent i i2 _ rfl _ e EX).mono ?_
    rintro ev w9 ⟨rfl, b9⟩
    have x13 := y13.b b9
    have x14 := y14.b b9
    have x16 := y16.b b9
    go_wp2_with fail
    go_ret
    exact ⟨rfl, btr FX b9⟩

set_option maxHeartbeats 4000000 in
theorem blocks_eo (a p : Int) (w : World) (e : Nat → Addr) (he : Errs w e) (h0 : 0 ≤ a) (h1 : a < 256) (ha : al a 6 = true) (hA : aloneN a 6 = 0) (c1 : lowerE a 6 = 3) :
    Calls Tryd.prog 4 #[.agg #[.int .i64 a, .int .i64 6], .int .i64 p] w fun ev w' => ev = .returned (.bool true) ∧ Below w.heap.size w w' := by
  have n1 : lowerE a 6 ≠ 0 := by omega
  have BE := fun w he => hide (buddy_err a 6 w e he n1)
  have PE := fun w he => hide (parent_err a 6 w e he n1)
  rw [c1] at BE PE
  have lb := low_bud a 6 h0 h1 (by omega) (by omega) ha
  have HH := fun w => hide (halves_ok a 6 w h0 h1 (by omega) (by omega) ha)
  have RL := fun w => hide (rbuddy_ok a (6 - 1) w h0 h1 (by omega) (by omega) lb.2)
  rw [lb.1] at RL
  simp only [Int.reduceSub] at HH RL
  generalize a + pw 5 = y at *
  clear n1 c1 lb ha
  have HC := fun w he => hide (check_v a 6 p w e he)
  have HN := fun w => hide (rb_any a 6 p w)
  have HK := fun w he => hide (coded_v a 6 p w e he)
  have HA := fun w => hide (ra_any a 6 w)
  generalize blockV e a 6 p = V at *
  generalize blockN a 6 p = BN at *
  rw [hA] at HA
  clear hA
  have HE := hide he
  clear he
  go_enter Tryd.func4, Tryd.ntmps4
  go_wp2_with fail
  refine (halved_true _).mono ?_
  rintro ev w1 ⟨rfl, b1⟩
  have S1 : Blk w1 w.heap.size a 6 ∧ Errs w1 e ∧ Below w.heap.size w w1 := ⟨(bl_new w a 6).b b1, ((unhide HE).alloc _).below b1, btr (ballo (Below.refl _ _) _) b1⟩
  clear b1
  have r20 := rd0 w.heap.size a 6
  have r21 := rd1 w.heap.size a 6
  go_wp2_with fail
  go_region_held3 (fun w' => Blk w' w.heap.size a 6 ∧ Errs w' e ∧ Below w.heap.size w w') (first | exact s4 hbK (by assumption) | exact s4d (by assumption)) (first
    | (go_at_call 13; refine (unhide (HC _ (show _ ∧ Errs _ e ∧ _ by assumption).2.1)).mono ?_; rintro ev wK ⟨rfl, hbK⟩)
    | (go_at_call 14; refine (unhide (HN _)).mono ?_; rintro ev wK ⟨rfl, hbK⟩)
    | (go_at_call 10; refine (unhide (HK _ (show _ ∧ Errs _ e ∧ _ by assumption).2.1)).mono ?_; rintro ev wK ⟨rfl, hbK⟩))
  all_goals
    go_wp2_with fail
    refine (unhide (HA _)).mono ?_
    rintro ev w2 ⟨rfl, b2⟩
    have S2 := s4 b2 (show Blk wK w.heap.size a 6 ∧ Errs wK e ∧ Below w.heap.size w wK by assumption)
    have u2 := S2.1
    go_wp2_with fail
    refine (unhide (BE _ S2.2.1.three)).mono ?_
    rintro ev w3 ⟨rfl, b3⟩
    have E3 := S2.2.1.below b3
    have u3 := fun o => (u2.b b3).a o
    go_wp2_with fail
    refine (unhide (PE _ (E3.alloc _).three)).mono ?_
    rintro ev w4 ⟨rfl, b4⟩
    have E4 := (E3.alloc (blkO 0 0)).below b4
    have t9 := (bl_new w3 0 0).b b4
    have u4 := fun o => ((u3 (blkO 0 0)).b b4).a o
    clear u2
    go_wp2_with fail
    refine (unhide (HH _)).mono ?_
    rintro ev w5 ⟨rfl, b5⟩
    have E5 := (E4.alloc (blkO 0 0)).below b5
    have F5 : Below w.heap.size w w5 := btr (ballo (btr (ballo (btr S2.2.2 b3) (blkO 0 0)) b4) (blkO 0 0)) b5
    have z2 := (((((u4 (blkO 0 0)).b b5).a (blkO a 5)).a (blkO y 5)).a (blkO 0 0))
    have z9 := (((((t9.a (blkO 0 0)).b b5).a (blkO a 5)).a (blkO y 5)).a (blkO 0 0))
    have z11 := (((((bl_new w4 0 0)).b b5).a (blkO a 5)).a (blkO y 5)).a (blkO 0 0)
    have z13 := ((bl_new w5 a 5).a (blkO y 5)).a (blkO 0 0)
    have z14 : Blk (((w5.alloc (blkO a 5)).alloc (blkO y 5)).alloc (blkO 0 0)) (w5.heap.size + 1) y 5 := by simpa using (bl_new (w5.alloc (blkO a 5)) y 5).a (blkO 0 0)
    have z16 : Blk (((w5.alloc (blkO a 5)).alloc (blkO y 5)).alloc (blkO 0 0)) (w5.heap.size + 1 + 1) 0 0 := by simpa using bl_new ((w5.alloc (blkO a 5)).alloc (blkO y 5)) 0 0
    have E6 := ((E5.alloc (blkO a 5)).alloc (blkO y 5)).alloc (blkO 0 0)
    have F6 : Below w.heap.size w (((w5.alloc (blkO a 5)).alloc (blkO y 5)).alloc (blkO 0 0)) := ballo (ballo (ballo F5 _) _) _
    clear u3 u4 t9 E3 E4 E5 F5 S2 b2 b3 b4 b5
    have r90 := rd0 w3.heap.size 0 0
    have r91 := rd1 w3.heap.size 0 0
    have r110 := rd0 w4.heap.size 0 0
    have r111 := rd1 w4.heap.size 0 0
    have r130 := rd0 w5.heap.size a 5
    have r131 := rd1 w5.heap.size a 5
    have r140 := rd0 (w5.heap.size + 1) y 5
    have r141 := rd1 (w5.heap.size + 1) y 5
    have r160 := rd0 (w5.heap.size + 1 + 1) 0 0
    have r161 := rd1 (w5.heap.size + 1 + 1) 0 0
    go_wp2_with fail
    refine (coded_sent 3 (by omega) _ (by omega) _ e E6).mono ?_
    rintro ev w7 ⟨rfl, b7⟩
    go_wp2_with fail
    refine (coded_sent 3 (by omega) _ (by omega) _ e (E6.below b7)).mono ?_
    rintro ev wX ⟨rfl, b8⟩
    have y2 := (z2.b b7).b b8
    have y9 := (z9.b b7).b b8
    have y11 := (z11.b b7).b b8
    have y13 := (z13.b b7).b b8
    have y14 := (z14.b b7).b b8
    have y16 := (z16.b b7).b b8
    have EX := (E6.below b7).below b8
    have FX := btr (btr F6 b7) b8
    clear z2 z9 z11 z13 z14 z16 E6 F6 b7 b8
    go_wp2_with fail
    have v13 := y13.a (blkO a 5)
    have v14 := y14.a (blkO a 5)
    have v17 := bl_new wX a 5
    have FY := ballo FX (blkO a 5)
    have r170 := rd0 wX.heap.size a 5
    have r171 := rd1 wX.heap.size a 5
    generalize wX.alloc (blkO a 5) = W9 at *
    generalize wX.heap.size = B17 at *
    have Q9 : Blk W9 w5.heap.size a 5 ∧ Blk W9 (w5.heap.size + 1) y 5 ∧ Blk W9 B17 a 5 ∧ Below w.heap.size w W9 := ⟨v13, v14, v17, FY⟩
    clear v13 v14 v17 FY
    go_region_held3 (fun w' => Blk w' w5.heap.size a 5 ∧ Blk w' (w5.heap.size + 1) y 5 ∧ Blk w' B17 a 5 ∧ Below w.heap.size w w') (first | exact s3 hbR (by assumption) | exact s3 (Below.refl _ _).drew (by assumption)) (first
      | (go_at_call 19; refine (unhide (RL _)).mono ?_; rintro ev wZ ⟨rfl, hbR⟩))
    go_wp2_with fail
    go_ret
    exact ⟨rfl, (show Blk wZ w5.heap.size a 5 ∧ Blk wZ (w5.heap.size + 1) y 5 ∧ Blk wZ B17 a 5 ∧ Below w.heap.size w wZ by assumption).2.2.2⟩

set_option maxHeartbeats 4000000 in
theorem blocks_oe (a p : Int) (w : World) (e : Nat → Addr) (he : Errs w e) (h0 : 0 ≤ a) (h1 : a < 256) (ha : al a 0 = true) (hA : aloneN a 0 = 0) (c2 : upperE a 0 = 3) :
    Calls Tryd.prog 4 #[.agg #[.int .i64 a, .int .i64 0], .int .i64 p] w fun ev w' => ev = .returned (.bool true) ∧ Below w.heap.size w w' := by
  have n2 : upperE a 0 ≠ 0 := by omega
  have BE := fun w => hide (buddy_ok a 0 w h0 h1 (by omega) (by omega) ha)
  have PE := fun w => hide (parent_ok a 0 w h0 h1 (by omega) (by omega) ha)
  have RB := fun w => hide (rbuddy_ok a 0 w h0 h1 (by omega) (by omega) ha)
  have RP := fun w => hide (rparent_ok a 0 w h0 h1 (by omega) (by omega))
  have HH := fun w he => hide (halves_err a 0 w e he n2)
  rw [c2] at HH
  simp only [Int.reduceAdd] at PE RP
  generalize bud a 0 = x at *
  generalize par a 0 = q at *
  clear n2 c2 ha
  have HC := fun w he => hide (check_v a 0 p w e he)
  have HN := fun w => hide (rb_any a 0 p w)
  have HK := fun w he => hide (coded_v a 0 p w e he)
  have HA := fun w => hide (ra_any a 0 w)
  generalize blockV e a 0 p = V at *
  generalize blockN a 0 p = BN at *
  rw [hA] at HA
  clear hA
  have HE := hide he
  clear he
  go_enter Tryd.func4, Tryd.ntmps4
  go_wp2_with fail
  refine (halved_true _).mono ?_
  rintro ev w1 ⟨rfl, b1⟩
  have S1 : Blk w1 w.heap.size a 0 ∧ Errs w1 e ∧ Below w.heap.size w w1 := ⟨(bl_new w a 0).b b1, ((unhide HE).alloc _).below b1, btr (ballo (Below.refl _ _) _) b1⟩
  clear b1
  have r20 := rd0 w.heap.size a 0
  have r21 := rd1 w.heap.size a 0
  go_wp2_with fail
  go_region_held3 (fun w' => Blk w' w.heap.size a 0 ∧ Errs w' e ∧ Below w.heap.size w w') (first | exact s4 hbK (by assumption) | exact s4d (by assumption)) (first
    | (go_at_call 13; refine (unhide (HC _ (show _ ∧ Errs _ e ∧ _ by assumption).2.1)).mono ?_; rintro ev wK ⟨rfl, hbK⟩)
    | (go_at_call 14; refine (unhide (HN _)).mono ?_; rintro ev wK ⟨rfl, hbK⟩)
    | (go_at_call 10; refine (unhide (HK _ (show _ ∧ Errs _ e ∧ _ by assumption).2.1)).mono ?_; rintro ev wK ⟨rfl, hbK⟩))
  all_goals
    go_wp2_with fail
    refine (unhide (HA _)).mono ?_
    rintro ev w2 ⟨rfl, b2⟩
    have S2 := s4 b2 (show Blk wK w.heap.size a 0 ∧ Errs wK e ∧ Below w.heap.size w wK by assumption)
    have u2 := S2.1
    go_wp2_with fail
    refine (unhide (BE _)).mono ?_
    rintro ev w3 ⟨rfl, b3⟩
    have E3 := S2.2.1.below b3
    have u3 := fun o => (u2.b b3).a o
    go_wp2_with fail
    refine (unhide (PE _)).mono ?_
    rintro ev w4 ⟨rfl, b4⟩
    have E4 := (E3.alloc (blkO x 0)).below b4
    have t9 := (bl_new w3 x 0).b b4
    have u4 := fun o => ((u3 (blkO x 0)).b b4).a o
    clear u2
    go_wp2_with fail
    refine (unhide (HH _ (E4.alloc _).three)).mono ?_
    rintro ev w5 ⟨rfl, b5⟩
    have E5 := (E4.alloc (blkO q 1)).below b5
    have F5 : Below w.heap.size w w5 := btr (ballo (btr (ballo (btr S2.2.2 b3) (blkO x 0)) b4) (blkO q 1)) b5
    have z2 := (((((u4 (blkO q 1)).b b5).a (blkO 0 0)).a (blkO 0 0)).a (blkO 0 0))
    have z9 := (((((t9.a (blkO q 1)).b b5).a (blkO 0 0)).a (blkO 0 0)).a (blkO 0 0))
    have z11 := (((((bl_new w4 q 1)).b b5).a (blkO 0 0)).a (blkO 0 0)).a (blkO 0 0)
    have z13 := ((bl_new w5 0 0).a (blkO 0 0)).a (blkO 0 0)
    have z14 : Blk (((w5.alloc (blkO 0 0)).alloc (blkO 0 0)).alloc (blkO 0 0)) (w5.heap.size + 1) 0 0 := by simpa using (bl_new (w5.alloc (blkO 0 0)) 0 0).a (blkO 0 0)
    have z16 : Blk (((w5.alloc (blkO 0 0)).alloc (blkO 0 0)).alloc (blkO 0 0)) (w5.heap.size + 1 + 1) 0 0 := by simpa using bl_new ((w5.alloc (blkO 0 0)).alloc (blkO 0 0)) 0 0
    have E6 := ((E5.alloc (blkO 0 0)).alloc (blkO 0 0)).alloc (blkO 0 0)
    have F6 : Below w.heap.size w (((w5.alloc (blkO 0 0)).alloc (blkO 0 0)).alloc (blkO 0 0)) := ballo (ballo (ballo F5 _) _) _
    clear u3 u4 t9 E3 E4 E5 F5 S2 b2 b3 b4 b5
    have r90 := rd0 w3.heap.size x 0
    have r91 := rd1 w3.heap.size x 0
    have r110 := rd0 w4.heap.size q 1
    have r111 := rd1 w4.heap.size q 1
    have r130 := rd0 w5.heap.size 0 0
    have r131 := rd1 w5.heap.size 0 0
    have r140 := rd0 (w5.heap.size + 1) 0 0
    have r141 := rd1 (w5.heap.size + 1) 0 0
    have r160 := rd0 (w5.heap.size + 1 + 1) 0 0
    have r161 := rd1 (w5.heap.size + 1 + 1) 0 0
    go_wp2_with fail
    generalize ((w5.alloc (blkO 0 0)).alloc (blkO 0 0)).alloc (blkO 0 0) = W6 at *
    have Q6 : Blk W6 w.heap.size a 0 ∧ Blk W6 w3.heap.size x 0 ∧ Blk W6 w4.heap.size q 1 ∧ Blk W6 w5.heap.size 0 0 ∧ Blk W6 (w5.heap.size + 1) 0 0 ∧ Blk W6 (w5.heap.size + 1 + 1) 0 0 ∧ Errs W6 e ∧ Below w.heap.size w W6 := ⟨z2, z9, z11, z13, z14, z16, E6, F6⟩
    clear z2 z9 z11 z13 z14 z16 E6 F6
    go_region_held3 (fun w' => Blk w' w.heap.size a 0 ∧ Blk w' w3.heap.size x 0 ∧ Blk w' w4.heap.size q 1 ∧ Blk w' w5.heap.size 0 0 ∧ Blk w' (w5.heap.size + 1) 0 0 ∧ Blk w' (w5.heap.size + 1 + 1) 0 0 ∧ Errs w' e ∧ Below w.heap.size w w') (first | exact s8 hbQ (by assumption) | exact s8 (Below.refl _ _).drew (by assumption)) (first
      | (go_at_call 19; refine (unhide (RB _)).mono ?_; rintro ev wX ⟨rfl, hbQ⟩)
      | (go_at_call 20; refine (unhide (RP _)).mono ?_; rintro ev wX ⟨rfl, hbQ⟩))
    obtain ⟨y2, y9, y11, y13, y14, y16, EX, FX⟩ := (show Blk wX w.heap.size a 0 ∧ Blk wX w3.heap.size x 0 ∧ Blk wX w4.heap.size q 1 ∧ Blk wX w5.heap.size 0 0 ∧ Blk wX (w5.heap.size + 1) 0 0 ∧ Blk wX (w5.heap.size + 1 + 1) 0 0 ∧ Errs wX e ∧ Below w.heap.size w wX by assumption)
    go_wp2_with fail
    refine (coded_sent 3 (by omega) _ (by omega) _ e EX).mono ?_
    rintro ev w9 ⟨rfl, b9⟩
    have x13 := y13.b b9
    have x14 := y14.b b9
    have x16 := y16.b b9
    go_wp2_with fail
    go_ret
    exact ⟨rfl, btr FX b9⟩

set_option maxHeartbeats 4000000 in
theorem blocks_oo (a k p : Int) (w : World) (e : Nat → Addr) (he : Errs w e) (h0 : 0 ≤ a) (h1 : a < 256) (k0 : 1 ≤ k) (k5 : k ≤ 5) (ha : al a k = true) (hA : aloneN a k = 0) :
    Calls Tryd.prog 4 #[.agg #[.int .i64 a, .int .i64 k], .int .i64 p] w fun ev w' => ev = .returned (.bool true) ∧ Below w.heap.size w w' := by
  have hk6 : (k == 6) = false := by simp; omega
  have hk0 : (k == 0) = false := by simp; omega
  have BE := fun w => hide (buddy_ok a k w h0 h1 (by omega) (by omega) ha)
  have PE := fun w => hide (parent_ok a k w h0 h1 (by omega) (by omega) ha)
  have RB := fun w => hide (rbuddy_ok a k w h0 h1 (by omega) (by omega) ha)
  have RP := fun w => hide (rparent_ok a k w h0 h1 (by omega) (by omega))
  have lb := low_bud a k h0 h1 (by omega) (by omega) ha
  have HH := fun w => hide (halves_ok a k w h0 h1 (by omega) (by omega) ha)
  have RL := fun w => hide (rbuddy_ok a (k - 1) w h0 h1 (by omega) (by omega) lb.2)
  rw [lb.1] at RL
  generalize a + pw (k - 1) = y at *
  generalize bud a k = x at *
  generalize par a k = q at *
  clear lb ha
  have HC := fun w he => hide (check_v a k p w e he)
  have HN := fun w => hide (rb_any a k p w)
  have HK := fun w he => hide (coded_v a k p w e he)
  have HA := fun w => hide (ra_any a k w)
  generalize blockV e a k p = V at *
  generalize blockN a k p = BN at *
  rw [hA] at HA
  clear hA
  have HE := hide he
  clear he
  go_enter Tryd.func4, Tryd.ntmps4
  go_wp2_with fail
  refine (halved_true _).mono ?_
  rintro ev w1 ⟨rfl, b1⟩
  have S1 : Blk w1 w.heap.size a k ∧ Errs w1 e ∧ Below w.heap.size w w1 := ⟨(bl_new w a k).b b1, ((unhide HE).alloc _).below b1, btr (ballo (Below.refl _ _) _) b1⟩
  clear b1
  have r20 := rd0 w.heap.size a k
  have r21 := rd1 w.heap.size a k
  go_wp2_with fail
  go_region_held3 (fun w' => Blk w' w.heap.size a k ∧ Errs w' e ∧ Below w.heap.size w w') (first | exact s4 hbK (by assumption) | exact s4d (by assumption)) (first
    | (go_at_call 13; refine (unhide (HC _ (show _ ∧ Errs _ e ∧ _ by assumption).2.1)).mono ?_; rintro ev wK ⟨rfl, hbK⟩)
    | (go_at_call 14; refine (unhide (HN _)).mono ?_; rintro ev wK ⟨rfl, hbK⟩)
    | (go_at_call 10; refine (unhide (HK _ (show _ ∧ Errs _ e ∧ _ by assumption).2.1)).mono ?_; rintro ev wK ⟨rfl, hbK⟩))
  all_goals
    go_wp2_with fail
    refine (unhide (HA _)).mono ?_
    rintro ev w2 ⟨rfl, b2⟩
    have S2 := s4 b2 (show Blk wK w.heap.size a k ∧ Errs wK e ∧ Below w.heap.size w wK by assumption)
    have u2 := S2.1
    go_wp2_with fail
    refine (unhide (BE _)).mono ?_
    rintro ev w3 ⟨rfl, b3⟩
    have E3 := S2.2.1.below b3
    have u3 := fun o => (u2.b b3).a o
    go_wp2_with fail
    refine (unhide (PE _)).mono ?_
    rintro ev w4 ⟨rfl, b4⟩
    have E4 := (E3.alloc (blkO x k)).below b4
    have t9 := (bl_new w3 x k).b b4
    have u4 := fun o => ((u3 (blkO x k)).b b4).a o
    clear u2
    go_wp2_with fail
    refine (unhide (HH _)).mono ?_
    rintro ev w5 ⟨rfl, b5⟩
    have E5 := (E4.alloc (blkO q (k + 1))).below b5
    have F5 : Below w.heap.size w w5 := btr (ballo (btr (ballo (btr S2.2.2 b3) (blkO x k)) b4) (blkO q (k + 1))) b5
    have z2 := (((((u4 (blkO q (k + 1))).b b5).a (blkO a (k - 1))).a (blkO y (k - 1))).a (blkO 0 0))
    have z9 := (((((t9.a (blkO q (k + 1))).b b5).a (blkO a (k - 1))).a (blkO y (k - 1))).a (blkO 0 0))
    have z11 := (((((bl_new w4 q (k + 1))).b b5).a (blkO a (k - 1))).a (blkO y (k - 1))).a (blkO 0 0)
    have z13 := ((bl_new w5 a (k - 1)).a (blkO y (k - 1))).a (blkO 0 0)
    have z14 : Blk (((w5.alloc (blkO a (k - 1))).alloc (blkO y (k - 1))).alloc (blkO 0 0)) (w5.heap.size + 1) y (k - 1) := by simpa using (bl_new (w5.alloc (blkO a (k - 1))) y (k - 1)).a (blkO 0 0)
    have z16 : Blk (((w5.alloc (blkO a (k - 1))).alloc (blkO y (k - 1))).alloc (blkO 0 0)) (w5.heap.size + 1 + 1) 0 0 := by simpa using bl_new ((w5.alloc (blkO a (k - 1))).alloc (blkO y (k - 1))) 0 0
    have E6 := ((E5.alloc (blkO a (k - 1))).alloc (blkO y (k - 1))).alloc (blkO 0 0)
    have F6 : Below w.heap.size w (((w5.alloc (blkO a (k - 1))).alloc (blkO y (k - 1))).alloc (blkO 0 0)) := ballo (ballo (ballo F5 _) _) _
    clear u3 u4 t9 E3 E4 E5 F5 S2 b2 b3 b4 b5
    have r90 := rd0 w3.heap.size x k
    have r91 := rd1 w3.heap.size x k
    have r110 := rd0 w4.heap.size q (k + 1)
    have r111 := rd1 w4.heap.size q (k + 1)
    have r130 := rd0 w5.heap.size a (k - 1)
    have r131 := rd1 w5.heap.size a (k - 1)
    have r140 := rd0 (w5.heap.size + 1) y (k - 1)
    have r141 := rd1 (w5.heap.size + 1) y (k - 1)
    have r160 := rd0 (w5.heap.size + 1 + 1) 0 0
    have r161 := rd1 (w5.heap.size + 1 + 1) 0 0
    go_wp2_with fail
    generalize ((w5.alloc (blkO a (k - 1))).alloc (blkO y (k - 1))).alloc (blkO 0 0) = W6 at *
    have Q6 : Blk W6 w.heap.size a k ∧ Blk W6 w3.heap.size x k ∧ Blk W6 w4.heap.size q (k + 1) ∧ Blk W6 w5.heap.size a (k - 1) ∧ Blk W6 (w5.heap.size + 1) y (k - 1) ∧ Blk W6 (w5.heap.size + 1 + 1) 0 0 ∧ Errs W6 e ∧ Below w.heap.size w W6 := ⟨z2, z9, z11, z13, z14, z16, E6, F6⟩
    clear z2 z9 z11 z13 z14 z16 E6 F6
    go_region_held3 (fun w' => Blk w' w.heap.size a k ∧ Blk w' w3.heap.size x k ∧ Blk w' w4.heap.size q (k + 1) ∧ Blk w' w5.heap.size a (k - 1) ∧ Blk w' (w5.heap.size + 1) y (k - 1) ∧ Blk w' (w5.heap.size + 1 + 1) 0 0 ∧ Errs w' e ∧ Below w.heap.size w w') (first | exact s8 hbQ (by assumption) | exact s8 (Below.refl _ _).drew (by assumption)) (first
      | (go_at_call 19; refine (unhide (RB _)).mono ?_; rintro ev wX ⟨rfl, hbQ⟩)
      | (go_at_call 20; refine (unhide (RP _)).mono ?_; rintro ev wX ⟨rfl, hbQ⟩))
    obtain ⟨y2, y9, y11, y13, y14, y16, EX, FX⟩ := (show Blk wX w.heap.size a k ∧ Blk wX w3.heap.size x k ∧ Blk wX w4.heap.size q (k + 1) ∧ Blk wX w5.heap.size a (k - 1) ∧ Blk wX (w5.heap.size + 1) y (k - 1) ∧ Blk wX (w5.heap.size + 1 + 1) 0 0 ∧ Errs wX e ∧ Below w.heap.size w wX by assumption)
    go_wp2_with fail
    have v13 := y13.a (blkO a (k - 1))
    have v14 := y14.a (blkO a (k - 1))
    have v17 := bl_new wX a (k - 1)
    have FY := ballo FX (blkO a (k - 1))
    have r170 := rd0 wX.heap.size a (k - 1)
    have r171 := rd1 wX.heap.size a (k - 1)
    generalize wX.alloc (blkO a (k - 1)) = W9 at *
    generalize wX.heap.size = B17 at *
    have Q9 : Blk W9 w5.heap.size a (k - 1) ∧ Blk W9 (w5.heap.size + 1) y (k - 1) ∧ Blk W9 B17 a (k - 1) ∧ Below w.heap.size w W9 := ⟨v13, v14, v17, FY⟩
    clear v13 v14 v17 FY
    go_region_held3 (fun w' => Blk w' w5.heap.size a (k - 1) ∧ Blk w' (w5.heap.size + 1) y (k - 1) ∧ Blk w' B17 a (k - 1) ∧ Below w.heap.size w w') (first | exact s3 hbR (by assumption) | exact s3 (Below.refl _ _).drew (by assumption)) (first
      | (go_at_call 19; refine (unhide (RL _)).mono ?_; rintro ev wZ ⟨rfl, hbR⟩))
    go_wp2_with fail
    go_ret
    exact ⟨rfl, (show Blk wZ w5.heap.size a (k - 1) ∧ Blk wZ (w5.heap.size + 1) y (k - 1) ∧ Blk wZ B17 a (k - 1) ∧ Below w.heap.size w wZ by assumption).2.2.2⟩

theorem blocks_any (a k p : Int) (w : World) (e : Nat → Addr) (he : Errs w e) :
    Calls Tryd.prog 4 #[.agg #[.int .i64 a, .int .i64 k], .int .i64 p] w fun ev w' => ev = .returned (.bool true) ∧ Below w.heap.size w w' := by
  by_cases c1 : a < 0 ∨ 256 ≤ a ∨ k < 0 ∨ 6 < k
  · exact blocks_ee a k p w e he 1 (by omega) (by omega) (by rw [lowerE, if_pos c1]) (by rw [upperE, if_pos c1]) (by rw [aloneN, if_pos c1]; rfl)
  by_cases c2 : al a k = true
  · by_cases c3 : k = 6
    · subst c3; exact blocks_eo a p w e he (by omega) (by omega) c2 (by rw [aloneN, if_neg c1, if_pos c2]) (by rw [lowerE, if_neg c1, if_pos c2, if_pos rfl])
    by_cases c4 : k = 0
    · subst c4; exact blocks_oe a p w e he (by omega) (by omega) c2 (by rw [aloneN, if_neg c1, if_pos c2]) (by rw [upperE, if_neg c1, if_pos c2, if_pos rfl])
    · exact blocks_oo a k p w e he (by omega) (by omega) (by omega) (by omega) c2 (by rw [aloneN, if_neg c1, if_pos c2])
  · exact blocks_ee a k p w e he 2 (by omega) (by omega) (by rw [lowerE, if_neg c1, if_neg c2]) (by rw [upperE, if_neg c1, if_neg c2]) (by rw [aloneN, if_neg c1, if_neg c2]; rfl)
end Fr
end Go.Proofs.YtbbfceolamglkaaDoor
