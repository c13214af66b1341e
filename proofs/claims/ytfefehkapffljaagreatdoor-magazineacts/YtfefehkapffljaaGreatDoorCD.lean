/- Z7b. -/
import Derived.Test.YtfefehkapffljaaGreatDoorGN
namespace Go.Proofs.YtfefehkapffljaaGreatDoor
open Go.RowKit
namespace Zn
open Fr Bd
def NodesAt (w : World) (z k g : Nat) : Prop := ∃ cp, w.cell? ⟨z, 5, none⟩ = some (.slice (some ⟨g, 0, none⟩) k cp)
set_option maxRecDepth 100000 in
set_option maxHeartbeats 16000000 in
theorem rztake_at (z : Nat) (mn lw hi : Int) (k : Nat) (nb : Nat → Nat) (nd : Nat → Nd) (fr : Nat → List Nat) (x : Nat) (o : Int) (u : Bool) (w : World) (h : RZ w z mn lw hi k nb nd fr) (hx : x < k) (h0 : 0 ≤ o) (h6 : o ≤ 6) (hlen : (fr x).length = k) (hfr : ∀ i ∈ fr x, i < k) (hk4 : k ≤ 20) :
   Calls Tryz.prog 28 #[ptr z, .int .i64 x, .int .i64 o, .bool u] w fun ev w' =>
     ((fr x).find? (fun i => tkC o mn u (nd i) == 2) = none ∧ ev = .returned (.tuple #[plV 0 0 0, .int .i64 (if (fr x).any (fun i => tkC o mn u (nd i) == 1) then 7 else 5)]) ∧ Below w.heap.size w w') ∨
     ∃ i, (fr x).find? (fun i => tkC o mn u (nd i) == 2) = some i ∧ i < k ∧ ev = .returned (.tuple #[plV i (tkA o (nd i)) o, .int .i64 0]) ∧ ∃ c g, w.heap.size ≤ c ∧ RZ w' z mn lw hi k (up nb i c) (up nd i (tkN o (nd i))) fr ∧ (Tag w g 137 ∧ NodesAt w z k g) ∧ Kept g g w w' := by
 have F1 := ballo (Below.refl w.heap.size w) (plO 0 0 0)
 have P1 := pb_new w
 have H1 := hide (isnode_ok z mn lw hi k nb nd fr x _ (h.b F1))
 rw [show decide ((0 : Int) ≤ x ∧ (x : Int) < k) = true by simp; omega] at H1
 obtain ⟨g0, cp0, hcn, own0⟩ := h.cn
 have hg0 := (own0.lt g0 rfl).2
 have tg0 : Tag w g0 137 := by
   rcases own0.2 with ⟨h', _⟩ | ⟨g', cap', cur, h', _, hg', _⟩
   · cases h'
   · simp only [Value.slice.injEq, Option.some.injEq, Addr.mk.injEq] at h'
     obtain ⟨⟨rfl, _⟩, _⟩ := h'
     exact ⟨cur, _, hg'⟩
 have OWN := hide own0
 have hzl := h.tg.lt
 have H := hide h
 clear h own0
 unfold plO at *
 have hge : (0 : Int) ≤ x := by omega
 have hlt : (x : Int) < k := by omega
 have hq : ∀ x : Nat, ptr x = .pointer (some ⟨x, 0, none⟩) := fun _ => rfl
 rw [hq z] at *
 unfold plV
 generalize hL : fr x = L at *
 go_enter Tryz.func28, Tryz.ntmps28
 go_wp2_with fail
 refine (unhide H1).mono ?_
 rintro ev w3 ⟨rfl, b3⟩
 have B3 := hide (btr F1 b3)
 have P3 := hide (P1.b b3)
 have R3 := (unhide H).b (unhide B3)
 obtain ⟨g3, c3, e3, _, _⟩ := R3.node hx
 clear H1
 go_wp2_with fail
 refine (rIsOrder_yes o w3 h0 h6).mono ?_
 rintro ev w4 ⟨rfl, rfl⟩
 clear e3 R3 b3 P1 F1
 go_wp2_with fail
 go_loopw [12, 13] (fun s a wr => ∃ (lo : Bool) (j : Nat), s = .bool lo ∧ a = .int .i64 j ∧ j ≤ k ∧ Hid (∀ j', j' < j → ∀ hj : j' < L.length, tkC o mn u (nd L[j']) ≠ 2) ∧ Hid (lo = (L.take j).any (fun i => tkC o mn u (nd i) == 1)) ∧ Hid (PB wr w.heap.size) ∧ Hid (Below w.heap.size w wr)) (fun _ a _ => k - (RowKit.intOf a).toNat)
 case atStart => exact ⟨false, 0, rfl, rfl, Nat.zero_le _, fun j' hj => by omega, rfl, P3, B3⟩
 case round =>
   clear B3 P3
   obtain ⟨lo, j, rfl, rfl, hj', hC, hLo, hP, hB⟩ := hrel
   have hgj : (0 : Int) ≤ j := by omega
   have R := (unhide H).b (unhide hB)
   have e5 := ((unhide hB).cell (p := ⟨z, 5, none⟩) hzl).trans hcn
   by_cases hjk : j < k
   · have hltj : (j : Int) < k := by omega
     have hjL : j < L.length := by omega
     obtain ⟨g6, c6, f6, d6, e6, hg6, e7, hf6, e8⟩ := R.from hx (j := j) (by rw [hL]; exact hjL)
     rw [hL] at e7
     have hik := hfr L[j] (List.getElem_mem hjL)
     have e8 : wr.cell? ⟨f6, j, none⟩ = some (.int .i64 (L[j] : Nat)) := by rw [e8]; simp [hL]
     have e10 := ((own_b (unhide OWN) (unhide hB)).cellAt L[j] (by omega)).trans (ptrs_at hik)
     have hok := (unhide H).ok L[j] hik
     have hrb := R.rb L[j] hik
     have hTake : L.take (j + 1) = L.take j ++ [L[j]] := List.take_succ_eq_append_getElem hjL
     have hB6 := unhide hB
     have HP6 := unhide hP
     have hwl := hB6.size
     have HOW := hide (fun w1 (hb : Below wr.heap.size wr w1) => rown_ok (nb L[j]) (nd L[j]).N (nd L[j]).F (nd L[j]).T w1 (hrb.b hb) (nd_len hok).1 (nd_len hok).2.1)
     have HNE := hide (fun i (hi : i < k) => (((unhide H).rb i hi).lt : nb i < w.heap.size))
     generalize hLi : L[j] = i at *
     have hmn0 := R.m2
     have R0lt := R.tg.lt
     clear hrb R
     have hik1 : (i : Int) < k := by omega
     have hik0 : (0 : Int) ≤ i := by omega
     go_wp2_with fail
     refine ((unhide HOW) wr (Below.refl _ _)).mono ?_
     rintro ev w5 ⟨c, rfl, RC, hc, b5⟩
     rw [hq c]
     have F5 := btr hB6 b5
     have P5 := HP6.b b5
     have HTA := rtake_any c (nd i) o w5 RC hok h0
     have hmn : wr.cell? ⟨z, 2, none⟩ = some (.int .i64 mn) := hmn0
     have c50 := (b5.cell (p := ⟨z, 2, none⟩) R0lt).trans hmn
     clear HOW RC e6 e7 e8 e10 hmn
     go_wp2_with fail
     rcases HTA with ⟨_, hf, HC2⟩ | ⟨y, hf, HC2⟩
     · have hC0 : tkC o mn u (nd i) = 0 := by simp [tkC, hf]
       have hC' : Hid (∀ j', j' < j + 1 → ∀ hj : j' < L.length, tkC o mn u (nd L[j']) ≠ 2) := fun j' hj' hj => by
         rcases Nat.lt_or_ge j' j with h' | h'
         · exact (unhide hC) j' h' hj
         · obtain rfl : j' = j := by omega
           rw [hLi, hC0]; decide
       have hLo' : Hid (lo = (L.take (j + 1)).any (fun i => tkC o mn u (nd i) == 1)) := by
         show _ = _
         rw [hTake, List.any_append, ← unhide hLo]
         simp [hC0]
       clear hC hLo hTake hC0
       have HC2 := hide HC2
       refine (unhide HC2).mono ?_
       rintro ev w6 ⟨rfl, b6⟩
       have F6 := btr F5 b6
       have P6 := P5.b b6
       have F7 := hide (ballo F6 (.cells #[.int .i64 0, .int .i64 0] 71))
       have P7 := hide (P6.b (ballo (Below.refl _ _) (.cells #[.int .i64 0, .int .i64 0] 71)))
       clear HC2 c50 P5 F5 hB hP hB6 HP6
       go_wp2
       go_roundw
       case rel => exact ⟨lo, j + 1, rfl, by go_num, by omega, hC', hLo', P7, F7⟩
       case measure => simp [RowKit.intOf]; omega
     · have hC1 : tkC o mn u (nd i) = if u = false ∧ pgs (tkN o (nd i)).F < mn then 1 else 2 := by simp [tkC, tkN, hf]
       have hd' := tkN_ok h0 hok
       generalize hdd : tkN o (nd i) = d' at *
       generalize had : tkA o (nd i) = ad at *
       have HC2 := hide HC2
       refine (unhide HC2).mono ?_
       rintro ev w6 ⟨rfl, R6, K6⟩
       have hcw : w.heap.size < c := Nat.lt_of_lt_of_le HP6.lt hc
       have F6 := F5.trans (K6.below (N := w.heap.size) (by omega) (by omega) F5.size)
       have P6 := P5.k K6 (by omega)
       clear HC2
       have F7 := ballo F6 (.cells #[.int .i64 ad, .int .i64 o] 71)
       have R7 := R6.a (.cells #[.int .i64 ad, .int .i64 o] 71)
       have P7 := P6.b (ballo (Below.refl _ _) (.cells #[.int .i64 ad, .int .i64 o] 71))
       have q0 := World.cell?_alloc_new w6 #[.int .i64 ad, .int .i64 o] 71 0
       have q1 := World.cell?_alloc_new w6 #[.int .i64 ad, .int .i64 o] 71 1
       have s7 : w6.heap.size < (w6.alloc (.cells #[.int .i64 ad, .int .i64 o] 71)).heap.size := by simp
       have h6s : w.heap.size ≤ w6.heap.size := F6.size
       clear F6 P6 R6 K6 P5 F5 c50 hf
       go_wp2_with fail
       generalize w6.alloc (.cells #[.int .i64 ad, .int .i64 o] 71) = W7 at *
       have m7 := (F7.cell (p := ⟨z, 2, none⟩) hzl).trans (unhide H).m2
       have KM := hide (fun w1 (hb : Below W7.heap.size W7 w1) => ((hb.cell (p := ⟨z, 2, none⟩) (Nat.lt_of_lt_of_le hzl F7.size)).trans m7 : w1.cell? ⟨z, 2, none⟩ = some (.int .i64 mn)))
       have HFP := hide (fun w1 (hb : Below W7.heap.size W7 w1) => rfree_ok c d'.N d'.F d'.T w1 (R7.b hb) (nd_len hd').1 (nd_len hd').2.2)
       have tok : True := trivial
       by_cases hs : u = false ∧ pgs d'.F < mn
       · obtain ⟨rfl, hs⟩ := hs
         have d8 : decide (pgs d'.F < mn) = true := by simpa using hs
         have hC11 : tkC o mn false (nd i) = 1 := by rw [hC1, if_pos ⟨rfl, hs⟩]
         have hC' : Hid (∀ j', j' < j + 1 → ∀ hj : j' < L.length, tkC o mn false (nd L[j']) ≠ 2) := fun j' hj' hj => by
           rcases Nat.lt_or_ge j' j with h' | h'
           · exact (unhide hC) j' h' hj
           · obtain rfl : j' = j := by omega
             rw [hLi, hC11]; decide
         have hLo' : Hid (true = (L.take (j + 1)).any (fun i => tkC o mn false (nd i) == 1)) := by
           show _ = _
           rw [hTake, List.any_append]
           simp [hC11]
         clear hC hLo hTake hC11 hC1
         generalize pgs d'.F = pf at *
         go_region_held3 (fun w' => w'.cell? ⟨z, 2, none⟩ = some (.int .i64 mn)) ((first | (go_keep; done) | (exact (unhide KM) _ (by assumption)))) ((go_at_call 83; refine ((unhide HFP) _ (drw W7)).mono ?_; rintro ev w8 ⟨rfl, b8⟩; have f8 : Below W7.heap.size W7 w8 := bd b8))
         have P8 := hide (P7.b f8)
         have F8 := hide (btr F7 f8)
         clear KM HFP f8 b8 F7 P7 R7 hB hP hB6 HP6
         go_wp2
         go_roundw
         case rel => exact ⟨true, j + 1, rfl, by go_num, by omega, hC', hLo', P8, F8⟩
         case measure => simp [RowKit.intOf]; omega
       · have hC2 : tkC o mn u (nd i) = 2 := by rw [hC1, if_neg hs]
         have hu : u = true ∨ (u = false ∧ decide (pgs d'.F < mn) = false) := by
           cases u
           · exact Or.inr ⟨rfl, by simpa using hs⟩
           · exact Or.inl rfl
         generalize pgs d'.F = pf at *
         have hpos : (u = true → Hid True) := fun _ => trivial
         rcases hu with hu | ⟨hu, du⟩
         · subst hu
           go_region
           have f8 : Below W7.heap.size W7 W7.drew := drw W7
           generalize W7.drew = w8 at *
           have F8 := btr F7 f8
           have R8 := (unhide H).b F8
           have RB8 := R7.b f8
           have P8 := P7.b f8
           have x0 := (f8.cell (p := ⟨w6.heap.size, 0, none⟩) s7).trans q0
           have x1 := (f8.cell (p := ⟨w6.heap.size, 1, none⟩) s7).trans q1
           have z5 := (F8.cell (p := ⟨z, 5, none⟩) hzl).trans hcn
           have ow8 := own_b (unhide OWN) F8
           have y0 := (ow8.cellAt i (by omega)).trans (ptrs_at hik)
           have yf := ow8.frozenAt i
           have hcn8 : ∀ i', i' < k → nb i' ≠ c := fun i' hi' => by have := (unhide HNE) i' hi'; omega
           have RS := R8.swap hik hcn8 RB8 hd' z5
           have K8 : Kept g0 g0 w (w8.setCell ⟨g0, i, none⟩ (ptr c)) := (kept_of F8).trans (kept_set w8 i (ptr c))
           have hbg : w.heap.size ≠ g0 := by omega
           have PS := P8.k (kept_set w8 i (ptr c)) hbg
           have hxg : w6.heap.size ≠ g0 := by omega
           have x0' := ((kept_set (g := g0) w8 i (ptr c)).cell (p := ⟨w6.heap.size, 0, none⟩) (Nat.lt_of_lt_of_le s7 f8.size) hxg hxg).trans x0
           have x1' := ((kept_set (g := g0) w8 i (ptr c)).cell (p := ⟨w6.heap.size, 1, none⟩) (Nat.lt_of_lt_of_le s7 f8.size) hxg hxg).trans x1
           have hfind : L.find? (fun i => tkC o mn true (nd i) == 2) = some i := by
             rw [← hLi]
             refine find_at hjL (fun j' hj' hlt => ?_) (by rw [hLi, hC2]; rfl)
             have := (unhide hC) j' hlt hj'
             simpa using this
           clear hC hLo hTake KM HFP x0 x1 HNE ow8 R8 RB8 P8 hcn8 m7 hB hP
           have RS := hide RS
           have K8 := hide K8
           have PS := hide PS
           rw [hq c] at *
           have P := unhide PS
           have x0' : (w8.setCell ⟨g0, i, none⟩ (.pointer (some ⟨c, 0, none⟩))).cell? ⟨w6.heap.size, 0, none⟩ = some (.int .i64 ad) := x0'
           have x1' : (w8.setCell ⟨g0, i, none⟩ (.pointer (some ⟨c, 0, none⟩))).cell? ⟨w6.heap.size, 1, none⟩ = some (.int .i64 o) := x1'
           have t0 := css (v := .int .i64 i) P.c0
           have t1 := css (v := .int .i64 ad) ((cso (w := w8.setCell ⟨g0, i, none⟩ (.pointer (some ⟨c, 0, none⟩))) (a := ⟨w.heap.size, 0, none⟩) (b := ⟨w.heap.size, 1, none⟩) (v := .int .i64 i) (by simp)).trans P.c1)
           have t2 := css (v := .int .i64 o) ((cso (a := ⟨w.heap.size, 1, none⟩) (b := ⟨w.heap.size, 2, none⟩) (v := .int .i64 ad) (by simp)).trans ((cso (w := w8.setCell ⟨g0, i, none⟩ (.pointer (some ⟨c, 0, none⟩))) (a := ⟨w.heap.size, 0, none⟩) (b := ⟨w.heap.size, 2, none⟩) (v := .int .i64 i) (by simp)).trans P.c2))
           have p0 := P.c0
           have p1 := P.c1
           have p2 := P.c2
           have pf0 := P.f 0
           have pf1 := P.f 1
           have pf2 := P.f 2
           have ptg := P.tg
           clear P PS
           go_wp2
           all_goals
             (try simp only [Exit.inBlock, Exit.then])
             refine bodyPost_ret (v := .tuple #[.agg #[.int .i64 i, .int .i64 ad, .int .i64 o], .int .i64 0]) ?_ rfl ?_
             · simp [results, Tryz.results28, go_sem, t0, t1, t2]; try rfl
             have bx := unhide RS
             have RF := (((bx.keep (kept_set (w8.setCell ⟨g0, i, none⟩ (.pointer (some ⟨c, 0, none⟩))) 0 (.int .i64 i)) ptg (by decide) (by decide) (by decide) (by decide) (by decide) (by decide)).keep (kept_set _ 1 (.int .i64 ad)) (ptg.set _ _) (by decide) (by decide) (by decide) (by decide) (by decide) (by decide)).keep (kept_set _ 2 (.int .i64 o)) ((ptg.set _ _).set _ _) (by decide) (by decide) (by decide) (by decide) (by decide) (by decide))
             have KF := (((unhide K8).setNew (Nat.le_refl _) 0 (.int .i64 i)).setNew (Nat.le_refl _) 1 (.int .i64 ad)).setNew (Nat.le_refl _) 2 (.int .i64 o)
             exact ⟨rfl, c, by omega, RF, g0, ⟨tg0, cp0, hcn⟩, KF⟩
         · subst hu
           go_region_held3 (fun w' => w'.cell? ⟨z, 2, none⟩ = some (.int .i64 mn)) ((first | (go_keep; done) | (exact (unhide KM) _ (by assumption)))) ((go_at_call 83; refine ((unhide HFP) _ (drw W7)).mono ?_; rintro ev w8 ⟨rfl, b8⟩; have f8 : Below W7.heap.size W7 w8 := bd b8))
           have F8 := btr F7 f8
           have R8 := (unhide H).b F8
           have RB8 := R7.b f8
           have P8 := P7.b f8
           have x0 := (f8.cell (p := ⟨w6.heap.size, 0, none⟩) s7).trans q0
           have x1 := (f8.cell (p := ⟨w6.heap.size, 1, none⟩) s7).trans q1
           have z5 := (F8.cell (p := ⟨z, 5, none⟩) hzl).trans hcn
           have ow8 := own_b (unhide OWN) F8
           have y0 := (ow8.cellAt i (by omega)).trans (ptrs_at hik)
           have yf := ow8.frozenAt i
           have hcn8 : ∀ i', i' < k → nb i' ≠ c := fun i' hi' => by have := (unhide HNE) i' hi'; omega
           have RS := R8.swap hik hcn8 RB8 hd' z5
           have K8 : Kept g0 g0 w (w8.setCell ⟨g0, i, none⟩ (ptr c)) := (kept_of F8).trans (kept_set w8 i (ptr c))
           have hbg : w.heap.size ≠ g0 := by omega
           have PS := P8.k (kept_set w8 i (ptr c)) hbg
           have hxg : w6.heap.size ≠ g0 := by omega
           have x0' := ((kept_set (g := g0) w8 i (ptr c)).cell (p := ⟨w6.heap.size, 0, none⟩) (Nat.lt_of_lt_of_le s7 f8.size) hxg hxg).trans x0
           have x1' := ((kept_set (g := g0) w8 i (ptr c)).cell (p := ⟨w6.heap.size, 1, none⟩) (Nat.lt_of_lt_of_le s7 f8.size) hxg hxg).trans x1
           have hfind : L.find? (fun i => tkC o mn false (nd i) == 2) = some i := by
             rw [← hLi]
             refine find_at hjL (fun j' hj' hlt => ?_) (by rw [hLi, hC2]; rfl)
             have := (unhide hC) j' hlt hj'
             simpa using this
           clear hC hLo hTake KM HFP x0 x1 HNE ow8 R8 RB8 P8 hcn8 m7 hB hP
           have RS := hide RS
           have K8 := hide K8
           have PS := hide PS
           rw [hq c] at *
           have P := unhide PS
           have x0' : (w8.setCell ⟨g0, i, none⟩ (.pointer (some ⟨c, 0, none⟩))).cell? ⟨w6.heap.size, 0, none⟩ = some (.int .i64 ad) := x0'
           have x1' : (w8.setCell ⟨g0, i, none⟩ (.pointer (some ⟨c, 0, none⟩))).cell? ⟨w6.heap.size, 1, none⟩ = some (.int .i64 o) := x1'
           have t0 := css (v := .int .i64 i) P.c0
           have t1 := css (v := .int .i64 ad) ((cso (w := w8.setCell ⟨g0, i, none⟩ (.pointer (some ⟨c, 0, none⟩))) (a := ⟨w.heap.size, 0, none⟩) (b := ⟨w.heap.size, 1, none⟩) (v := .int .i64 i) (by simp)).trans P.c1)
           have t2 := css (v := .int .i64 o) ((cso (a := ⟨w.heap.size, 1, none⟩) (b := ⟨w.heap.size, 2, none⟩) (v := .int .i64 ad) (by simp)).trans ((cso (w := w8.setCell ⟨g0, i, none⟩ (.pointer (some ⟨c, 0, none⟩))) (a := ⟨w.heap.size, 0, none⟩) (b := ⟨w.heap.size, 2, none⟩) (v := .int .i64 i) (by simp)).trans P.c2))
           have p0 := P.c0
           have p1 := P.c1
           have p2 := P.c2
           have pf0 := P.f 0
           have pf1 := P.f 1
           have pf2 := P.f 2
           have ptg := P.tg
           clear P PS
           go_wp2
           all_goals
             (try simp only [Exit.inBlock, Exit.then])
             refine bodyPost_ret (v := .tuple #[.agg #[.int .i64 i, .int .i64 ad, .int .i64 o], .int .i64 0]) ?_ rfl ?_
             · simp [results, Tryz.results28, go_sem, t0, t1, t2]; try rfl
             have bx := unhide RS
             have RF := (((bx.keep (kept_set (w8.setCell ⟨g0, i, none⟩ (.pointer (some ⟨c, 0, none⟩))) 0 (.int .i64 i)) ptg (by decide) (by decide) (by decide) (by decide) (by decide) (by decide)).keep (kept_set _ 1 (.int .i64 ad)) (ptg.set _ _) (by decide) (by decide) (by decide) (by decide) (by decide) (by decide)).keep (kept_set _ 2 (.int .i64 o)) ((ptg.set _ _).set _ _) (by decide) (by decide) (by decide) (by decide) (by decide) (by decide))
             have KF := (((unhide K8).setNew (Nat.le_refl _) 0 (.int .i64 i)).setNew (Nat.le_refl _) 1 (.int .i64 ad)).setNew (Nat.le_refl _) 2 (.int .i64 o)
             exact ⟨rfl, c, by omega, RF, g0, ⟨tg0, cp0, hcn⟩, KF⟩
   · have hltj : ¬ (j : Int) < k := by omega
     obtain rfl : k = j := by omega
     have hnone : L.find? (fun i => tkC o mn u (nd i) == 2) = none := by
       rw [List.find?_eq_none]
       intro i hi
       obtain ⟨j', hj', rfl⟩ := List.getElem_of_mem hi
       have := (unhide hC) j' (by omega) hj'
       simpa using this
     have hTk : L.take k = L := List.take_of_length_le (by omega)
     have hlo : lo = L.any (fun i => tkC o mn u (nd i) == 1) := by have := unhide hLo; rwa [hTk] at this
     have P := unhide hP
     have F3 := set3 (unhide hB) (Nat.le_refl _) 0 0 0
     clear hC hLo hP hB R
     have t0 := css (v := .int .i64 0) P.c0
     have t1 := css (v := .int .i64 0) ((cso (w := wr) (a := ⟨w.heap.size, 0, none⟩) (b := ⟨w.heap.size, 1, none⟩) (v := .int .i64 0) (by simp)).trans P.c1)
     have t2 := css (v := .int .i64 0) ((cso (a := ⟨w.heap.size, 1, none⟩) (b := ⟨w.heap.size, 2, none⟩) (v := .int .i64 0) (by simp)).trans ((cso (w := wr) (a := ⟨w.heap.size, 0, none⟩) (b := ⟨w.heap.size, 2, none⟩) (v := .int .i64 0) (by simp)).trans P.c2))
     have p0 := P.c0
     have p1 := P.c1
     have p2 := P.c2
     have pf0 := P.f 0
     have pf1 := P.f 1
     have pf2 := P.f 2
     generalize hANY : L.any (fun i => tkC o mn u (nd i) == 1) = an at *
     subst hlo
     cases lo
     · go_wp2
       (try simp only [Exit.inBlock, Exit.then])
       refine bodyPost_ret (v := .tuple #[.agg #[.int .i64 0, .int .i64 0, .int .i64 0], .int .i64 5]) ?_ rfl ?_
       · simp [results, Tryz.results28, go_sem, t0, t1, t2]; try rfl
       · first | exact ⟨rfl, F3⟩ | exact Or.inl ⟨rfl, F3⟩ | exact Or.inl ⟨hnone, rfl, F3⟩
     · go_wp2
       (try simp only [Exit.inBlock, Exit.then])
       refine bodyPost_ret (v := .tuple #[.agg #[.int .i64 0, .int .i64 0, .int .i64 0], .int .i64 7]) ?_ rfl ?_
       · simp [results, Tryz.results28, go_sem, t0, t1, t2]; try rfl
       · first | exact ⟨rfl, F3⟩ | exact Or.inl ⟨rfl, F3⟩ | exact Or.inl ⟨hnone, rfl, F3⟩
end Zn
end Go.Proofs.YtfefehkapffljaaGreatDoor
