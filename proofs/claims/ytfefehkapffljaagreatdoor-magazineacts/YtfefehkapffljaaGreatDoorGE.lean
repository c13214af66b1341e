/- Cover · Cover2 · Blocks · Blocks2 · Cover3 · LawCover. -/
import Derived.Test.YtfefehkapffljaaGreatDoorGC
import Derived.OwnWalk
import Derived.Test.YtfefehkapffljaaGreatDoorGA
import Derived.Deep.QuietTactic
import Derived.BigQuiet
import Derived.Deep.RegionHeld3
import Derived.Test.YtfefehkapffljaaGreatDoorGB
namespace Go.Proofs.YtfefehkapffljaaGreatDoor
open Go.RowKit
namespace Fr
theorem shr_cond (a r j : Int) (j0 : 0 ≤ j) (j5 : j ≤ 5) (hr : 1 ≤ r) (hr2 : r ≤ 256) : cond a r (j + 1) = (al a (j + 1) && decide (0 < r / pw (j + 1))) := by
 unfold cond
 congr 1
 rcases orders j j0 (by omega) with rfl | rfl | rfl | rfl | rfl | rfl | rfl
 all_goals first | omega | skip
 all_goals
   simp only [Int.reduceAdd, pw1, pw2, pw3, pw4, pw5, pw6]
   rw [decide_eq_decide]
   omega
set_option maxHeartbeats 4000000 in
theorem widest_ok (a t : Int) (w : World) (h0 : 0 ≤ a) (h1 : a < t) (h2 : t ≤ 256) : Calls Tryz.prog 158 #[.int .i64 a, .int .i64 t] w fun ev w' => ev = .returned (.int .i64 (wid a (t - a))) ∧ w' = w := by
 go_enter Tryz.func158, Tryz.ntmps158
 go_wp2
 go_loop [5] (fun k => ∃ j : Int, 0 ≤ j ∧ j ≤ 6 ∧ Hid (upto a (t - a) j) ∧ k = .int .i64 j) (fun k => 6 - (intOf k).toNat)
 case atStart => exact ⟨0, by omega, by omega, upto_zero _ _, rfl⟩
 case round =>
   obtain ⟨j, j0, j6, hu, rfl⟩ := hrel
   by_cases hc : j ≤ 5 ∧ cond a (t - a) (j + 1) = true
   · obtain ⟨j5, hc⟩ := hc
     have HC := hide hc
     rw [shr_cond a (t - a) j j0 j5 (by omega) (by omega)] at hc
     simp only [Bool.and_eq_true, decide_eq_true_eq] at hc
     obtain ⟨ha, hs⟩ := hc
     unfold al at ha
     rcases orders j j0 (by omega) with rfl | rfl | rfl | rfl | rfl | rfl | rfl
     all_goals first | omega | skip
     all_goals
       simp only [Int.reduceAdd, pw1, pw2, pw3, pw4, pw5, pw6] at ha hs
       clear j0 j6 j5
       go_wp2
       go_round
       case rel => exact ⟨_, by omega, by omega, upto_succ (unhide hu) (unhide HC), rfl⟩
       case measure => simp [intOf]
   · have hw : wid a (t - a) = j := wid_of (unhide hu) j0 j6 (by
       by_cases h6 : j = 6
       · exact Or.inl h6
       · right
         have := fun h => hc ⟨by omega, h⟩
         simpa using this)
     have HW := hide hw
     clear hw
     by_cases h6 : j = 6
     · subst h6
       clear hc
       go_wp2
       go_ret
       exact ⟨by rw [unhide HW]; rfl, rfl⟩
     · have hc2 : cond a (t - a) (j + 1) = false := by
         have := fun h => hc ⟨by omega, h⟩
         simpa using this
       rw [shr_cond a (t - a) j j0 (by omega) (by omega) (by omega)] at hc2
       clear hc
       by_cases ha : al a (j + 1) = true
       · rw [ha] at hc2
         simp only [Bool.true_and] at hc2
         unfold al at ha
         rcases orders j j0 (by omega) with rfl | rfl | rfl | rfl | rfl | rfl | rfl
         all_goals first | omega | skip
         all_goals
           simp only [Int.reduceAdd, pw1, pw2, pw3, pw4, pw5, pw6] at ha hc2
           clear j0 j6 h6
           go_wp2
           go_ret
           exact ⟨by rw [unhide HW]; rfl, rfl⟩
       · have ha2 : al a (j + 1) = false := by simpa using ha
         clear hc2 ha
         unfold al at ha2
         rcases orders j j0 (by omega) with rfl | rfl | rfl | rfl | rfl | rfl | rfl
         all_goals first | omega | skip
         all_goals
           simp only [Int.reduceAdd, pw1, pw2, pw3, pw4, pw5, pw6] at ha2
           clear j0 j6 h6
           go_wp2
           go_ret
           exact ⟨by rw [unhide HW]; rfl, rfl⟩
end Fr
end Go.Proofs.YtfefehkapffljaaGreatDoor
namespace Go.Proofs.YtfefehkapffljaaGreatDoor
open Go.RowKit
namespace Fr
theorem info36 : (Tryz.prog.info? 71).map (fun i => (i.zero, i.size, i.bytes)) = some (some (.agg #[.int .i64 0, .int .i64 0]), 2, 16) := by kernel_rfl
theorem own_row {w : World} {base e size : Nat} {v : Value} {n : Nat} {xs : List Value} (h : w.ownsRow base e size v n xs) : ∀ k, v.ownBlock = some k → base ≤ k := fun k hk => by
 rcases h.2 with ⟨rfl, _⟩ | ⟨g, cap, cur, rfl, hb, _⟩
 · simp [Value.ownBlock] at hk
 · simp [Value.ownBlock] at hk; omega
theorem cov_step {w wr w1 : World} {b v' : Value} {D L : List (Int × Int)} {x t : Int} (hx : x < t) (hL : D ++ cv x (t - x) = L) (hown : wr.ownsRow w.heap.size 71 2 b D.length (flat D)) (hb : Below w.heap.size w wr)
   (hown' : w1.ownsRow w.heap.size 71 2 v' (D.length + 1) (flat D ++ [.int .i64 x, .int .i64 (wid x (t - x))])) {o : Obj} (hg : (wr.alloc o).grownBy w1 b.ownBlock) (_hn : v' = .slice none 0 0 ↔ b = .slice none 0 0 ∧ 1 = 0) :
   ((D ++ [(x, wid x (t - x))]) ++ cv (x + pw (wid x (t - x))) (t - (x + pw (wid x (t - x)))) = L) ∧ w1.ownsRow w.heap.size 71 2 v' (D ++ [(x, wid x (t - x))]).length (flat (D ++ [(x, wid x (t - x))])) ∧ Below w.heap.size w w1 ∧ (D ++ [(x, wid x (t - x))] = [] → v' = .slice none 0 0) := by
 refine ⟨?_, ?_, ?_, fun h => by simp at h⟩
 · rw [cv_cons x (t - x) (by omega)] at hL
   rw [show t - (x + pw (wid x (t - x))) = t - x - pw (wid x (t - x)) from by omega]
   simpa using hL
 · rw [flat_snoc]; simpa using hown'
 · exact (ballo hb o).grown hg (by have := hb.size; simp; omega) (own_row hown)
set_option maxHeartbeats 4000000 in
theorem cover_ok (a n : Int) (w : World) (h0 : 0 ≤ a) (hn : 0 ≤ n) (h2 : a + n ≤ 256) :
   Calls Tryz.prog 109 #[.int .i64 a, .int .i64 n] w fun ev w' => ∃ v, ev = .returned (.tuple #[v, .nilIface]) ∧ w'.ownsRow w.heap.size 71 2 v (cv a n).length (flat (cv a n)) ∧ Below w.heap.size w w' ∧ (cv a n = [] → v = .slice none 0 0) := by
 obtain ⟨i0, hi, hz0, hz1, hz2⟩ := info_parts info36
 have d1 : decide (a < 0) = false := by simp; omega
 have d2 : decide (256 < a) = false := by simp; omega
 have d3 : decide (n < 0) = false := by simp; omega
 have d4 : decide (256 - a < n) = false := by simp; omega
 have hlen : (cv a n).length ≤ 256 := by have := cv_length a n; omega
 have hat : a ≤ a + n := by omega
 have hL : [] ++ cv a (a + n - a) = cv a n := by rw [show a + n - a = n from by omega]; rfl
 generalize cv a n = L at *
 have HL := hide hL
 have HI := hide hi
 have HZ := hide hz0
 have HZ1 := hide hz1
 have HZ2 := hide hz2
 clear hL hi hz0 hz1 hz2
 go_enter Tryz.func109, Tryz.ntmps109
 go_wp2_with fail
 clear d1 d2 d3 d4
 generalize ht : a + n = t at *
 clear ht
 go_loopw [0, 6] (fun p b wr => ∃ (x : Int) (D : List (Int × Int)), p = .int .i64 x ∧ 0 ≤ x ∧ x ≤ t ∧ Hid (D ++ cv x (t - x) = L) ∧ wr.ownsRow w.heap.size 71 2 b D.length (flat D) ∧ Below w.heap.size w wr ∧ Hid (D = [] → b = .slice none 0 0)) (fun p _ _ => (t - intOf p).toNat)
 case atStart => exact ⟨a, [], rfl, h0, by omega, HL, World.ownsRow_nil _ _ _ _, Below.refl _ _, fun _ => rfl⟩
 case round =>
   obtain ⟨x, D, rfl, x0, xt, hD, hown, hb, hnil⟩ := hrel
   by_cases hlt : x < t
   · have hdl : D.length ≤ 256 := by
       have := congrArg List.length (unhide hD); simp at this; omega
     have hw := wid_facts x (t - x) (by omega)
     have hp := pw_pos (wid x (t - x))
     have hp2 := pw_le6 (wid x (t - x)) hw.1 hw.2.1
     have HW := hide (widest_ok x t)
     have HS := fun v' w1 o h1 h2 h3 => hide (cov_step (L := L) (v' := v') (w1 := w1) (o := o) hlt (unhide hD) hown hb h1 h2 h3)
     generalize wid x (t - x) = k at *
     have hpk : (2 : Int) ^ k.toNat = pw k := rfl
     obtain ⟨k0, k6, _, kr⟩ := hw
     generalize pw k = d at *
     go_wp2_with fail
     refine ((unhide HW) _ x0 hlt h2).mono ?_
     rintro ev w2 ⟨rfl, rfl⟩
     go_wp2_with (at_builtin; refine wpList_append_own _ rfl (.tmp 35) (.tmp 39) 146 rfl w.heap.size 71 i0 (.agg #[.int .i64 0, .int .i64 0]) 2 16 Tryz.underlying146 (unhide HI) (unhide HZ) (unhide HZ1) (unhide HZ2) rfl (by decide) _ _ _ rfl (hown.alloc _) ⟨w2.heap.size, 0, none⟩ 1 1 [.int .i64 x, .int .i64 k] rfl rfl ?c1 ?c2 ?c3 ?c4 ?c5 ?_)
     case c1 =>
       intro j u hj
       match j, hj with
       | 0, hj => simp at hj; subst hj; simp [Addr.add]
       | 1, hj => simp at hj; subst hj; simp [Addr.add]
     case c2 =>
       intro u hu
       simp at hu
       rcases hu with rfl | rfl <;> rfl
     case c3 => unfold maxLen; omega
     case c4 => omega
     case c5 => have := hb.size; simp; omega
     intro v' w1 hown' hgrow hnil'
     have R := hide ((unhide (HS v' w1 _ hown' hgrow (by simpa using hnil'))))
     clear hown' hgrow hnil' hown hb
     go_wp2_with fail
     go_roundw
     case rel =>
       have R := unhide R
       exact ⟨x + d, D ++ [(x, k)], rfl, by omega, by omega, R.1, R.2.1, R.2.2.1, R.2.2.2⟩
     case measure => simp [intOf]; omega
   · have hxt : x = t := by omega
     have hDL : D = L := by
       have := unhide hD
       rw [cv_nil _ _ (by omega)] at this
       simpa using this
     have hfin : wr.ownsRow w.heap.size 71 2 u6 L.length (flat L) ∧ (L = [] → u6 = .slice none 0 0) := by rw [← hDL]; exact ⟨hown, unhide hnil⟩
     have HF := hide hfin
     clear hfin hDL hown hnil hD
     go_wp2_with fail
     go_ret2
     exact ⟨_, rfl, (unhide HF).1, hb, (unhide HF).2⟩
end Fr
end Go.Proofs.YtfefehkapffljaaGreatDoor
namespace Go.Proofs.YtfefehkapffljaaGreatDoor
open Go.RowKit
namespace Fr
theorem bdrN {w w' : World} (h : Below w.heap.size w w') (n : Nat) : Below w.heap.size w (w'.drewN n) := h.trans ⟨rfl, rfl, rfl, Nat.le_refl _, fun _ _ => rfl⟩
end Fr
end Go.Proofs.YtfefehkapffljaaGreatDoor
namespace Go.Proofs.YtfefehkapffljaaGreatDoor
open Go.RowKit
namespace Fr
theorem al_rem (a k : Int) : (a % pw k != 0) = !al a k := by
 have h := pw_pos k
 unfold al
 generalize pw k = d at *
 have := Int.mul_ediv_add_emod a d
 have e : a / d * d = d * (a / d) := Int.mul_comm _ _
 rw [e]
 by_cases h0 : a % d = 0
 · rw [show d * (a / d) = a from by omega]; simp [h0]
 · have h1 : ¬ d * (a / d) = a := by omega
   have e1 : (a % d != 0) = true := by simpa using h0
   have e2 : (d * (a / d) == a) = false := by simpa using h1
   rw [e1, e2]; rfl
theorem par_facts (a k : Int) (h0 : 0 ≤ a) (h1 : a < 256) (k0 : 0 ≤ k) (k5 : k ≤ 5) : 0 ≤ a / pw (k + 1) * pw (k + 1) ∧ a / pw (k + 1) * pw (k + 1) ≤ 256 := by
 rcases orders k k0 (by omega) with rfl | rfl | rfl | rfl | rfl | rfl | rfl
 all_goals first | omega | (simp only [Int.reduceAdd, pw1, pw2, pw3, pw4, pw5, pw6]; omega)
theorem rparent_ok (a k : Int) (w : World) (h0 : 0 ≤ a) (h1 : a < 256) (k0 : 0 ≤ k) (k5 : k ≤ 5) :
   Calls Tryz.prog 176 #[.agg #[.int .i64 a, .int .i64 k]] w fun ev w' => ev = .returned (blkV (par a k) (k + 1)) ∧ Below w.heap.size w w' := by
 have hf := par_facts a k h0 h1 k0 k5
 have hx : par a k = a / pw (k + 1) * pw (k + 1) := rfl
 have hd := pw_pos (k + 1)
 have H := fun w => hide (pages_ok (k + 1) w (by omega) (by omega))
 generalize pw (k + 1) = d at *
 generalize hy : a / d * d = y at *
 have HX := hide hx
 have HY := hide hy
 clear hx hy
 have hy2 := unhide HY
 go_enter Tryz.func176, Tryz.ntmps176
 go_wp2_with (go_at_call 136; refine (unhide (H _)).mono ?_; rintro ev w' ⟨rfl, rfl⟩)
 go_region
 go_wp2_with fail
 exact bodyPost_ret (v := blkV (par a k) (k + 1)) (by simp [results, Tryz.results176, go_sem, unhide HX]) rfl ⟨rfl, by repeat (first | exact Below.refl _ _ | refine Below.drew ?_ | refine ballo ?_ _ | refine Below.setCell ?_ (by simp) _)⟩
theorem bud_par (a k : Int) (_h0 : 0 ≤ a) (_h1 : a < 256) (k0 : 0 ≤ k) (k5 : k ≤ 5) (ha : al a k = true) : bud a k = if par a k = a then a + pw k else par a k := by
 rw [al_iff] at ha
 unfold bud par
 rcases orders k k0 (by omega) with rfl | rfl | rfl | rfl | rfl | rfl | rfl
 all_goals first | omega | skip
 all_goals
   simp only [Int.reduceAdd, pw0, pw1, pw2, pw3, pw4, pw5, pw6] at *
   split <;> split <;> omega
theorem wrap_id (x : Int) (h0 : 0 ≤ x) (h1 : x ≤ 1000000) : IntKind.i64.wrap x = x := by rw [IntKind.wrap_i64]; omega
set_option maxHeartbeats 1000000 in
theorem rbuddy_ok (a k : Int) (w : World) (h0 : 0 ≤ a) (h1 : a < 256) (k0 : 0 ≤ k) (k5 : k ≤ 5) (ha : al a k = true) :
   Calls Tryz.prog 135 #[.agg #[.int .i64 a, .int .i64 k]] w fun ev w' => ev = .returned (blkV (bud a k) k) ∧ Below w.heap.size w w' := by
 have hbp := bud_par a k h0 h1 k0 k5 ha
 have H := fun w => hide (pages_ok k w k0 (by omega))
 have HP := fun w => hide (rparent_ok a k w h0 h1 k0 k5)
 have hd := pw_pos k
 have hd2 := pw_le k k0 k5
 generalize par a k = q at *
 generalize pw k = d at *
 by_cases c : q = a
 · rw [if_pos c] at hbp
   subst c
   rw [hbp]
   clear hbp ha
   have hwr := wrap_id (q + d) (by omega) (by omega)
   go_enter Tryz.func135, Tryz.ntmps135
   go_wp2_with fail
   refine (unhide (HP _)).mono ?_
   rintro ev w1 ⟨rfl, b1⟩
   have t1 := (((bl_new w q k).a (blkO 0 0)).b b1).a (blkO q (k + 1))
   have r1 : Blk w1 (w.heap.size + 1) 0 0 := by simpa using (bl_new (w.alloc (blkO q k)) 0 0).b b1
   have z1 : ∀ j, (w1.alloc (blkO q (k + 1))).frozen? ⟨w.heap.size + 1, j, none⟩ = false := fun j => by
     rw [World.frozen?_alloc_old w1 _ ⟨w.heap.size + 1, j, none⟩ (by have := r1.lt; simp; omega), b1.frozen (p := ⟨w.heap.size + 1, j, none⟩) (by simp)]
     simp
   have y2 := (r1.a (blkO q (k + 1))).c0
   have y3 := (r1.a (blkO q (k + 1))).c1
   have fW : Below w.heap.size w (w1.alloc (blkO q (k + 1))) := ballo (btr (ballo (ballo (Below.refl _ _) _) _) b1) _
   have s1 := r1.lt
   have u0 := fun o => ((((bl_new w q k).a (blkO 0 0)).b b1).a o).c0
   have u1 := fun o => ((((bl_new w q k).a (blkO 0 0)).b b1).a o).c1
   clear r1 b1
   go_wp2_with fail
   have y0 := t1.c0
   have y1 := t1.c1
   have y4 := z1 0
   have y5 := z1 1
   clear u0 u1 z1 t1
   generalize w1.alloc (blkO q (k + 1)) = W at *
   go_region_held3 (fun w' => w'.cell? ⟨w.heap.size, 0, none⟩ = some (.int .i64 q) ∧ w'.cell? ⟨w.heap.size, 1, none⟩ = some (.int .i64 k)) (go_keep) ((go_at_call 136; refine (unhide (H _)).mono ?_; rintro ev w' ⟨rfl, rfl⟩))
   go_wp2_with fail
   exact bodyPost_ret (v := blkV (q + d) k) (by simp [results, Tryz.results135, go_sem, y2, y3]) rfl ⟨rfl, ((fW.setCell (by simp) _).setCell (by simp) _).drew⟩
 · rw [if_neg c] at hbp
   rw [hbp]
   have hne : (q == a) = false := by simpa using c
   clear hbp ha c
   go_enter Tryz.func135, Tryz.ntmps135
   go_wp2_with fail
   refine (unhide (HP _)).mono ?_
   rintro ev w1 ⟨rfl, b1⟩
   have t1 := (((bl_new w a k).a (blkO 0 0)).b b1)
   have r1 : Blk w1 (w.heap.size + 1) 0 0 := by simpa using (bl_new (w.alloc (blkO a k)) 0 0).b b1
   have z1 : ∀ j, w1.frozen? ⟨w.heap.size + 1, j, none⟩ = false := fun j => by
     rw [b1.frozen (p := ⟨w.heap.size + 1, j, none⟩) (by simp)]
     simp
   have y0 := r1.c0
   have y1 := r1.c1
   have fW : Below w.heap.size w w1 := btr (ballo (ballo (Below.refl _ _) _) _) b1
   have s1 := r1.lt
   have u0 := fun o => (t1.a o).c0
   have u1 := fun o => (t1.a o).c1
   clear r1 b1 t1
   go_wp2_with fail
   have q0 : ∀ (o : Obj) (p1 p2 : Addr) (v1 v2 : Value) (j : Nat), (((w1.setCell p1 v1).setCell p2 v2).alloc o).cell? ⟨w.heap.size + 1, j, none⟩ = ((w1.setCell p1 v1).setCell p2 v2).cell? ⟨w.heap.size + 1, j, none⟩ :=
     fun o p1 p2 v1 v2 j => World.cell?_alloc_lt _ _ ⟨w.heap.size + 1, j, none⟩ (by simp [World.setCell]; omega)
   exact bodyPost_ret (v := blkV q k) (by simp [results, Tryz.results135, go_sem, y0, y1, q0]) rfl ⟨rfl, ballo ((fW.setCell (by simp) _).setCell (by simp) _) _⟩
end Fr
end Go.Proofs.YtfefehkapffljaaGreatDoor
namespace Go.Proofs.YtfefehkapffljaaGreatDoor
open Go.RowKit
namespace Fr
theorem al_rem_eq (a k : Int) : (a % pw k == 0) = al a k := by
 have h := al_rem a k
 cases hc : al a k
 · rw [hc] at h; simpa using h
 · rw [hc] at h; simpa using h
theorem news2 (w : World) (x k : Int) : ∀ j u, ([.int .i64 x, .int .i64 k] : List Value)[j]? = some u → (w.alloc (blkO x k)).cell? ((⟨w.heap.size, 0, none⟩ : Addr).add j) = some u := by
 intro j u hj
 match j, hj with
 | 0, hj => simp at hj; subst hj; simp [Addr.add]
 | 1, hj => simp at hj; subst hj; simp [Addr.add]
theorem one2 (x k : Int) : ∀ u ∈ ([.int .i64 x, .int .i64 k] : List Value), u.oneCell' = true := by
 intro u hu
 simp at hu
 rcases hu with rfl | rfl <;> rfl
set_option maxRecDepth 100000 in
set_option maxHeartbeats 8000000 in
theorem rcover_ok (a n : Int) (w : World) (h0 : 0 ≤ a) (hn : 0 ≤ n) (h2 : a + n ≤ 256) :
   Calls Tryz.prog 128 #[.int .i64 a, .int .i64 n] w fun ev w' => ∃ v, ev = .returned (.tuple #[v, .bool true]) ∧ w'.ownsRow w.heap.size 71 2 v (cv a n).length (flat (cv a n)) ∧ Below w.heap.size w w' ∧ (cv a n = [] → v = .slice none 0 0) := by
 obtain ⟨i0, hi, hz0, hz1, hz2⟩ := info_parts info36
 have d1 : decide (a < 0) = false := by simp; omega
 have d2 : decide (256 < a) = false := by simp; omega
 have d3 : decide (n < 0) = false := by simp; omega
 have d4 : decide (256 < n) = false := by simp; omega
 have d5 : decide (256 < a + n) = false := by simp; omega
 have hlen : (cv a n).length ≤ 256 := by have := cv_length a n; omega
 have hL : [] ++ cv a (a + n - a) = cv a n := by rw [show a + n - a = n from by omega]; rfl
 generalize cv a n = L at *
 have HL := hide hL
 have HI := hide hi
 have HZ := hide hz0
 have HZ1 := hide hz1
 have HZ2 := hide hz2
 clear hL hi hz0 hz1 hz2
 have hat : a ≤ a + n := by omega
 go_enter Tryz.func128, Tryz.ntmps128
 go_wp2_with fail
 clear d1 d2 d3 d4 d5
 obtain ⟨t, ht⟩ : ∃ t, t = a + n := ⟨_, rfl⟩
 have hnt : n = t - a := by omega
 rw [← ht] at HL h2 hat
 subst hnt
 clear ht
 go_loopw [0, 1, 6] (fun p q b wr => ∃ (x : Int) (D : List (Int × Int)), p = .int .i64 x ∧ q = .int .i64 (t - x) ∧ 0 ≤ x ∧ x ≤ t ∧ Hid (D ++ cv x (t - x) = L) ∧ wr.ownsRow w.heap.size 71 2 b D.length (flat D) ∧ Below w.heap.size w wr ∧ Hid (D = [] → b = .slice none 0 0)) (fun _ q _ _ => (intOf q).toNat)
 case atStart => exact ⟨a, [], rfl, rfl, h0, by omega, HL, World.ownsRow_nil _ _ _ _, Below.refl _ _, fun _ => rfl⟩
 case round =>
   obtain ⟨x, D, rfl, rfl, x0, xt, hD, hown, hb, hnil⟩ := hrel
   by_cases hlt : x < t
   · have hdl : D.length ≤ 256 := by
       have := congrArg List.length (unhide hD); simp at this; omega
     go_wp2_with fail
     go_loop [7] (fun k => ∃ j : Int, 0 ≤ j ∧ j ≤ 6 ∧ Hid (upto x (t - x) j) ∧ k = .int .i64 j) (fun k => 6 - (intOf k).toNat)
     case atStart => exact ⟨0, by omega, by omega, upto_zero _ _, rfl⟩
     case round =>
       obtain ⟨j, j0, j6, hu, rfl⟩ := hrel
       by_cases hc : j ≤ 5 ∧ cond x (t - x) (j + 1) = true
       · obtain ⟨j5, hc⟩ := hc
         have HC := hide hc
         simp only [cond, Bool.and_eq_true, decide_eq_true_eq] at hc
         obtain ⟨ha, hs⟩ := hc
         have hr := al_rem_eq x (j + 1)
         rw [ha] at hr
         have hp := pw_pos (j + 1)
         have HP := fun w => hide (pages_ok (j + 1) w (by omega) (by omega))
         clear ha
         generalize pw (j + 1) = d at *
         go_wp2_with fail
         refine (unhide (HP _)).mono ?_
         rintro ev w3 ⟨rfl, rfl⟩
         go_wp2_with fail
         refine (unhide (HP _)).mono ?_
         rintro ev w4 ⟨rfl, rfl⟩
         go_wp2_with fail
         go_round
         case rel => exact ⟨j + 1, by omega, by omega, upto_succ (unhide hu) (unhide HC), rfl⟩
         case measure => simp [intOf]; omega
       · have HW := hide (wid_of (unhide hu) j0 j6 (by
           by_cases h6 : j = 6
           · exact Or.inl h6
           · right
             have := fun h => hc ⟨by omega, h⟩
             simpa using this))
         by_cases h6 : j = 6
         · have c6 : decide (j < 6) = false := by simp; omega
           clear hc h6
           have hw := wid_facts x (t - x) (by omega)
           have hp := pw_pos (wid x (t - x))
           have hp2 := pw_le6 (wid x (t - x)) hw.1 hw.2.1
           have HP := fun w => hide (pages_ok (wid x (t - x)) w hw.1 hw.2.1)
           have HS := fun v' w1 o h1 h2 h3 => hide (cov_step (L := L) (v' := v') (w1 := w1) (o := o) hlt (unhide hD) hown hb h1 h2 h3)
           have HWJ := unhide HW
           rw [HWJ] at hw hp hp2 HP HS
           clear HWJ
           obtain ⟨k0, k6, _, kr⟩ := hw
           generalize pw j = d at *
           have sz := hb.size
           go_wp2_with (at_builtin; refine wpList_append_own _ rfl (.tmp 49) (.tmp 53) 146 rfl w.heap.size 71 i0 (.agg #[.int .i64 0, .int .i64 0]) 2 16 Tryz.underlying146 (unhide HI) (unhide HZ) (unhide HZ1) (unhide HZ2) rfl (by decide) _ _ _ rfl (hown.alloc _) ⟨wr.heap.size, 0, none⟩ 1 1 [.int .i64 x, .int .i64 j] rfl rfl (news2 _ x j) (one2 x j) (by unfold maxLen; omega) (by omega) (by simp; omega) ?_)
           intro v' w1 hown' hgrow hnil'
           have R := hide ((unhide (HS v' w1 _ hown' hgrow (by simpa using hnil'))))
           clear hown' hgrow hnil' hown hb sz
           go_wp2_with fail
           refine (unhide (HP _)).mono ?_
           rintro ev w3 ⟨rfl, rfl⟩
           go_wp2_with fail
           refine (unhide (HP _)).mono ?_
           rintro ev w4 ⟨rfl, rfl⟩
           go_wp2_with fail
           go_roundw
           case rel =>
             have R := unhide R
             exact ⟨x + d, D ++ [(x, j)], rfl, by go_num, by omega, by omega, R.1, R.2.1, R.2.2.1, R.2.2.2⟩
           case measure => simp [intOf]; omega
         · have hc2 : cond x (t - x) (j + 1) = false := by
             have := fun h => hc ⟨by omega, h⟩
             simpa using this
           clear hc
           have hr := al_rem_eq x (j + 1)
           have hpp := pw_pos (j + 1)
           have HPP := fun w => hide (pages_ok (j + 1) w (by omega) (by omega))
           by_cases ha : al x (j + 1) = true
           · rw [ha] at hr
             have hs : ¬ pw (j + 1) ≤ t - x := by simpa [cond, ha] using hc2
             clear hc2 ha
             generalize pw (j + 1) = dd at *
             go_wp2_with fail
             refine (unhide (HPP _)).mono ?_
             rintro ev w3 ⟨rfl, rfl⟩
             go_wp2_with fail
             refine (unhide (HPP _)).mono ?_
             rintro ev w4 ⟨rfl, rfl⟩
             clear HPP
             have hw := wid_facts x (t - x) (by omega)
             have hp := pw_pos (wid x (t - x))
             have hp2 := pw_le6 (wid x (t - x)) hw.1 hw.2.1
             have HP := fun w => hide (pages_ok (wid x (t - x)) w hw.1 hw.2.1)
             have HS := fun v' w1 o h1 h2 h3 => hide (cov_step (L := L) (v' := v') (w1 := w1) (o := o) hlt (unhide hD) hown hb h1 h2 h3)
             have HWJ := unhide HW
             rw [HWJ] at hw hp hp2 HP HS
             clear HWJ
             obtain ⟨k0, k6, _, kr⟩ := hw
             generalize pw j = d at *
             have sz := hb.size
             go_wp2_with (at_builtin; refine wpList_append_own _ rfl (.tmp 49) (.tmp 53) 146 rfl w.heap.size 71 i0 (.agg #[.int .i64 0, .int .i64 0]) 2 16 Tryz.underlying146 (unhide HI) (unhide HZ) (unhide HZ1) (unhide HZ2) rfl (by decide) _ _ _ rfl (hown.alloc _) ⟨w4.heap.size, 0, none⟩ 1 1 [.int .i64 x, .int .i64 j] rfl rfl (news2 _ x j) (one2 x j) (by unfold maxLen; omega) (by omega) (by simp; omega) ?_)
             intro v' w1 hown' hgrow hnil'
             have R := hide ((unhide (HS v' w1 _ hown' hgrow (by simpa using hnil'))))
             clear hown' hgrow hnil' hown hb sz
             go_wp2_with fail
             refine (unhide (HP _)).mono ?_
             rintro ev w3 ⟨rfl, rfl⟩
             go_wp2_with fail
             refine (unhide (HP _)).mono ?_
             rintro ev w4 ⟨rfl, rfl⟩
             go_wp2_with fail
             go_roundw
             case rel =>
               have R := unhide R
               exact ⟨x + d, D ++ [(x, j)], rfl, by go_num, by omega, by omega, R.1, R.2.1, R.2.2.1, R.2.2.2⟩
             case measure => simp [intOf]; omega
           · rw [show al x (j + 1) = false by simpa using ha] at hr
             clear hc2 ha
             generalize pw (j + 1) = dd at *
             go_wp2_with fail
             refine (unhide (HPP _)).mono ?_
             rintro ev w3 ⟨rfl, rfl⟩
             clear HPP
             have hw := wid_facts x (t - x) (by omega)
             have hp := pw_pos (wid x (t - x))
             have hp2 := pw_le6 (wid x (t - x)) hw.1 hw.2.1
             have HP := fun w => hide (pages_ok (wid x (t - x)) w hw.1 hw.2.1)
             have HS := fun v' w1 o h1 h2 h3 => hide (cov_step (L := L) (v' := v') (w1 := w1) (o := o) hlt (unhide hD) hown hb h1 h2 h3)
             have HWJ := unhide HW
             rw [HWJ] at hw hp hp2 HP HS
             clear HWJ
             obtain ⟨k0, k6, _, kr⟩ := hw
             generalize pw j = d at *
             have sz := hb.size
             go_wp2_with (at_builtin; refine wpList_append_own _ rfl (.tmp 49) (.tmp 53) 146 rfl w.heap.size 71 i0 (.agg #[.int .i64 0, .int .i64 0]) 2 16 Tryz.underlying146 (unhide HI) (unhide HZ) (unhide HZ1) (unhide HZ2) rfl (by decide) _ _ _ rfl (hown.alloc _) ⟨w3.heap.size, 0, none⟩ 1 1 [.int .i64 x, .int .i64 j] rfl rfl (news2 _ x j) (one2 x j) (by unfold maxLen; omega) (by omega) (by simp; omega) ?_)
             intro v' w1 hown' hgrow hnil'
             have R := hide ((unhide (HS v' w1 _ hown' hgrow (by simpa using hnil'))))
             clear hown' hgrow hnil' hown hb sz
             go_wp2_with fail
             refine (unhide (HP _)).mono ?_
             rintro ev w3 ⟨rfl, rfl⟩
             go_wp2_with fail
             refine (unhide (HP _)).mono ?_
             rintro ev w4 ⟨rfl, rfl⟩
             go_wp2_with fail
             go_roundw
             case rel =>
               have R := unhide R
               exact ⟨x + d, D ++ [(x, j)], rfl, by go_num, by omega, by omega, R.1, R.2.1, R.2.2.1, R.2.2.2⟩
             case measure => simp [intOf]; omega
   · have hxt : x = t := by omega
     have hDL : D = L := by
       have := unhide hD
       rw [cv_nil _ _ (by omega)] at this
       simpa using this
     have hfin : wr.ownsRow w.heap.size 71 2 u6 L.length (flat L) ∧ (L = [] → u6 = .slice none 0 0) := by rw [← hDL]; exact ⟨hown, unhide hnil⟩
     have HF := hide hfin
     have hle : decide (0 < t - x) = false := by simp; omega
     clear hfin hDL hown hnil hD hxt
     go_wp2_with fail
     go_ret2
     exact ⟨_, rfl, (unhide HF).1, hb, (unhide HF).2⟩
end Fr
end Go.Proofs.YtfefehkapffljaaGreatDoor
namespace Go.Proofs.YtfefehkapffljaaGreatDoor
open Go.RowKit
namespace Fr
set_option maxHeartbeats 1000000 in
theorem same_blocks (v1 v2 : Value) (L : List (Int × Int)) (w : World) (hl : L.length ≤ 256) (h1 : Lies w v1 L) (h2 : Lies w v2 L) :
   Calls Tryz.prog 144 #[v1, v2] w fun ev w' => ev = .returned (.bool true) ∧ Below w.heap.size w w' := by
 rcases h1 with ⟨hL, rfl⟩ | ⟨g1, c1, rfl, hg1, hL, q1, q2, hc1⟩
 · rcases h2 with ⟨_, rfl⟩ | ⟨g2, c2, rfl, hg2, hL2, _⟩
   · go_enter Tryz.func144, Tryz.ntmps144
     go_wp2
     refine wp_loop_rounds 1 ?_
     rw [rounds_succ]
     go_wp2
     go_ret
     exact ⟨rfl, Below.refl _ _⟩
   · exact absurd hL hL2
 · rcases h2 with ⟨hL2, _⟩ | ⟨g2, c2, rfl, hg2, hL2, q3, q4, hc2⟩
   · exact absurd hL2 hL
   · have H1 := hide hc1
     have H2 := hide hc2
     clear hc1 hc2 hL hL2
     unfold maxLen at q2 q4
     generalize hn : L.length = n at *
     clear hn
     go_enter Tryz.func144, Tryz.ntmps144
     go_wp2
     go_loopw [5] (fun i wr => ∃ j : Nat, j ≤ n ∧ i = .int .i64 j ∧ Hid (wr.heap = w.heap ∧ wr.os = w.os ∧ wr.tape = w.tape ∧ wr.output = w.output)) (fun i _ => n - (intOf i).toNat)
     case atStart => exact ⟨0, Nat.zero_le _, rfl, rfl, rfl, rfl, rfl⟩
     case round =>
       obtain ⟨j, hj, rfl, hQ⟩ := hrel
       by_cases hlt : j < n
       · have e1 := (unhide H1) j hlt
         have e2 := (unhide H2) j hlt
         generalize L.getD j (0, 0) = x at *
         have c1 : wr.cell? ⟨g1, j * 2, none⟩ = some (.int .i64 x.1) := by rw [← e1.1]; simp [World.cell?, (unhide hQ).1]
         have c2 : wr.cell? ⟨g1, j * 2 + 1, none⟩ = some (.int .i64 x.2) := by rw [← e1.2]; simp [World.cell?, (unhide hQ).1]
         have c3 : wr.cell? ⟨g2, j * 2, none⟩ = some (.int .i64 x.1) := by rw [← e2.1]; simp [World.cell?, (unhide hQ).1]
         have c4 : wr.cell? ⟨g2, j * 2 + 1, none⟩ = some (.int .i64 x.2) := by rw [← e2.2]; simp [World.cell?, (unhide hQ).1]
         clear e1 e2
         go_wp2
         go_region
         go_wp2
         go_roundw
         case rel => exact ⟨j + 1, by omega, by go_num, unhide hQ⟩
         case measure => simp [intOf]; omega
       · go_wp2
         go_ret
         have hQ := unhide hQ
         exact ⟨rfl, ⟨hQ.2.1, hQ.2.2.1, hQ.2.2.2, by rw [hQ.1]; exact Nat.le_refl _, fun k _ => by rw [hQ.1]⟩⟩
end Fr
end Go.Proofs.YtfefehkapffljaaGreatDoor
