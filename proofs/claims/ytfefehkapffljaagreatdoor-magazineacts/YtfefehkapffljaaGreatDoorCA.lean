/- C1 · C2. -/
import Derived.Test.YtfefehkapffljaaGreatDoorKF
import Derived.Test.YtfefehkapffljaaGreatDoorKM
import Derived.Deep.RegionHeldLaw
namespace Go.Proofs.YtfefehkapffljaaGreatDoor
open Go.RowKit Go.Maps
namespace Sb
open Fr Bd Zn Dz
structure RSl (w : World) (b t m : Nat) (s : Sl) : Prop where
 c0 : w.cell? ⟨b, 0, none⟩ = some (.int .i64 s.nd)
 c1 : w.cell? ⟨b, 1, none⟩ = some (.int .i64 s.at_)
 c2 : w.cell? ⟨b, 2, none⟩ = some (.int .i64 0)
 c3 : w.cell? ⟨b, 3, none⟩ = some (.slice (some ⟨t, 0, none⟩) m m)
 row : ∀ j, j < m → w.cell? ⟨t, j, none⟩ = some (.bool (s.bm.testBit j))
 tg : Tag w b 143
 tt : Tag w t 4
 fz : ∀ o, w.frozen? ⟨t, o, none⟩ = false
theorem RSl.same {w w' : World} {b t m : Nat} {s : Sl} (h : RSl w b t m s) (hb : w'.heap[b]? = w.heap[b]?) (ht : w'.heap[t]? = w.heap[t]?) : RSl w' b t m s :=
 ⟨(World.cell?_of_block (w := w) (a := ⟨b, 0, none⟩) hb).trans h.c0, (World.cell?_of_block (w := w) (a := ⟨b, 1, none⟩) hb).trans h.c1, (World.cell?_of_block (w := w) (a := ⟨b, 2, none⟩) hb).trans h.c2, (World.cell?_of_block (w := w) (a := ⟨b, 3, none⟩) hb).trans h.c3, fun j hj => (World.cell?_of_block (w := w) (a := ⟨t, j, none⟩) ht).trans (h.row j hj), h.tg.blk hb, h.tt.blk ht, fun o => (World.frozen?_of_block (w := w) (a := ⟨t, o, none⟩) ht).trans (h.fz o)⟩
theorem RSl.b {w w' : World} {b t m : Nat} {s : Sl} (h : RSl w b t m s) (hb : Below w.heap.size w w') : RSl w' b t m s := h.same (hb.block b h.tg.lt) (hb.block t h.tt.lt)
structure RC (N0 : Nat) (w : World) (c z : Nat) (sz : Int) (m : Nat) (bs ts : List Nat) (ss : List Sl) : Prop where
 c0 : w.cell? ⟨c, 0, none⟩ = some (ptr z)
 c1 : w.cell? ⟨c, 1, none⟩ = some (.int .i64 sz)
 c2 : ∃ p d, w.cell? ⟨c, 2, none⟩ = some (.slice p bs.length d) ∧ w.ownsRow N0 140 1 (.slice p bs.length d) bs.length (ptrl bs)
 tg : Tag w c 66
 ge : N0 ≤ c
 len : bs.length = ss.length
 lt : ts.length = ss.length
 tn : ts.Nodup
 gt : ∀ t ∈ ts, N0 ≤ t
 sl : ∀ (i b t : Nat) (s : Sl), bs[i]? = some b → ts[i]? = some t → ss[i]? = some s → RSl w b t m s
 cf : ∀ o, w.frozen? ⟨c, o, none⟩ = false
section
variable {N0 : Nat} {w w' : World} {c z : Nat} {sz : Int} {m : Nat} {bs ts : List Nat} {ss : List Sl}
theorem RC.same (h : RC N0 w c z sz m bs ts ss) (hs : Same [66, 140, 143, 4] w w') : RC N0 w' c z sz m bs ts ss := by
 obtain ⟨p, d, e2, o2⟩ := h.c2
 have hc := fun j => cell_same hs (by simp) h.tg j
 exact ⟨(hc 0).trans h.c0, (hc 1).trans h.c1, ⟨p, d, (hc 2).trans e2, own_same o2 hs (by simp)⟩, tag_same hs (by simp) h.tg, h.ge, h.len, h.lt, h.tn, h.gt, fun i b t s h1 h2 h3 => (h.sl i b t s h1 h2 h3).same (hs b 143 (by simp) (h.sl i b t s h1 h2 h3).tg) (hs t 4 (by simp) (h.sl i b t s h1 h2 h3).tt), fun o => (World.frozen?_of_block (w := w) (a := ⟨c, o, none⟩) (hs c 66 (by simp) h.tg)).trans (h.cf o)⟩
theorem RC.b (h : RC N0 w c z sz m bs ts ss) (hb : Below w.heap.size w w') : RC N0 w' c z sz m bs ts ss := h.same (same_below hb)
theorem RC.slab (h : RC N0 w c z sz m bs ts ss) {i : Nat} (hi : i < ss.length) : ∃ b t s, bs[i]? = some b ∧ ts[i]? = some t ∧ ss[i]? = some s ∧ RSl w b t m s := by
 have hb : i < bs.length := by rw [h.len]; exact hi
 have ht : i < ts.length := by rw [h.lt]; exact hi
 exact ⟨_, _, _, List.getElem?_eq_getElem hb, List.getElem?_eq_getElem ht, List.getElem?_eq_getElem hi, h.sl i _ _ _ (List.getElem?_eq_getElem hb) (List.getElem?_eq_getElem ht) (List.getElem?_eq_getElem hi)⟩
theorem RC.row (h : RC N0 w c z sz m bs ts ss) (hn : 0 < ss.length) : ∃ g d, w.cell? ⟨c, 2, none⟩ = some (.slice (some ⟨g, 0, none⟩) ss.length d) ∧ g < w.heap.size ∧ ∀ i b, bs[i]? = some b → w.cell? ⟨g, i, none⟩ = some (ptr b) := by
 obtain ⟨p, d, e2, o2⟩ := h.c2
 rw [h.len] at e2 o2
 obtain ⟨g, cap, hv, hg, hl⟩ := o2.form hn
 simp only [Value.slice.injEq, true_and] at hv
 obtain ⟨rfl, rfl⟩ := hv
 refine ⟨g, d, e2, hl, fun i b hb => ?_⟩
 have hi : i < bs.length := (List.getElem?_eq_some_iff.mp hb).1
 exact (o2.cellAt i (by rw [h.len] at hi; omega)).trans (ptrl_at hb)
end
theorem pop_le_of (x : Nat) : ∀ j, pop x j ≤ j
 | 0 => by simp [pop]
 | j + 1 => by have := pop_le_of x j; rw [pop]; split <;> omega
set_option maxHeartbeats 2000000 in
theorem many_ok (b t m : Nat) (s : Sl) (w : World) (h : RSl w b t m s) (hm : m ≤ 64) :
   Calls Tryz.prog 68 #[ptr b] w fun ev w' => ev = .returned (.int .i64 (pop s.bm m)) ∧ Below w.heap.size w w' := by
 have e3 := h.c3
 have hbl := h.tg.lt
 have H := hide h
 clear h
 unfold ptr
 go_enter Tryz.func68, Tryz.ntmps68
 go_wp2_with fail
 go_loopw [3, 4] (fun n a wr => ∃ j : Nat, n = .int .i64 (pop s.bm j) ∧ a = .int .i64 j ∧ j ≤ m ∧ Hid (Below w.heap.size w wr)) (fun _ a _ => m - (RowKit.intOf a).toNat)
 case atStart => exact ⟨0, rfl, rfl, Nat.zero_le _, Below.refl _ _⟩
 case round =>
   obtain ⟨j, rfl, rfl, hj, hb⟩ := hrel
   have hge : (0 : Int) ≤ j := by omega
   have e4 := ((unhide hb).cell (p := ⟨b, 3, none⟩) hbl).trans e3
   have hml := pop_le_of s.bm j
   by_cases hjn : j < m
   · have hlt : (j : Int) < m := by omega
     have cj := ((unhide H).b (unhide hb)).row j hjn
     have hmt := hide (show pop s.bm (j + 1) = if s.bm.testBit j then pop s.bm j + 1 else pop s.bm j by rw [pop]; split <;> rfl)
     generalize pop s.bm j = n at *
     have hm64 : n ≤ 64 := by omega
     cases hx : s.bm.testBit j
     · rw [hx] at cj hmt
       clear hml
       go_wp2
       go_roundw
       case rel => exact ⟨j + 1, by rw [unhide hmt]; rfl, by go_num, by omega, hb⟩
       case measure => simp [RowKit.intOf]; omega
     · rw [hx] at cj hmt
       clear hml
       go_wp2
       go_roundw
       case rel => exact ⟨j + 1, by rw [unhide hmt]; simp, by go_num, by omega, hb⟩
       case measure => simp [RowKit.intOf]; omega
   · have hlt : ¬ (j : Int) < m := by omega
     obtain rfl : j = m := by omega
     clear hml
     go_wp2
     go_ret
     exact ⟨rfl, unhide hb⟩
end Sb
end Go.Proofs.YtfefehkapffljaaGreatDoor
namespace Go.Proofs.YtfefehkapffljaaGreatDoor
open Go.RowKit Go.Maps
namespace Sb
open Fr Bd Zn Dz
structure ToI (w : World) (m : Nat) (sz : Int) (ss : List Sl) (i j : Nat) (v : Value) (W : World) : Prop where
 b : Below w.heap.size w W
 o : W.ownsRow w.heap.size 42 2 v (tot m ss i + pop (ss.getD i default).bm j) (flat (obA m sz ss i ++ obL sz (ss.getD i default) j))
set_option maxRecDepth 100000 in
set_option maxHeartbeats 16000000 in
theorem objects_ok (N0 : Nat) (c z : Nat) (sz : Int) (m : Nat) (bs ts : List Nat) (ss : List Sl) (w : World) (h : RC N0 w c z sz m bs ts ss) (hok : ∀ s ∈ ss, sok m s) (hmm : 1 ≤ sz ∧ sz ≤ 64 ∧ (m : Int) = 64 / sz) (hn : ss.length ≤ 10000) :
   Calls Tryz.prog 85 #[ptr c] w fun ev w' => ∃ v, ev = .returned v ∧ w'.ownsRow w.heap.size 42 2 v (tot m ss ss.length) (flat (obA m sz ss ss.length)) ∧ Below w.heap.size w w' := by
 obtain ⟨i0, hi0, hz0, hz1, hz2⟩ := info_parts info42o
 have HI := hide hi0
 have HZ := hide hz0
 have HZ1 := hide hz1
 have HZ2 := hide hz2
 clear hi0 hz0 hz1 hz2
 obtain ⟨p, d, e2, _⟩ := h.c2
 have hcl := h.tg.lt
 have H := hide h
 have HOK := hide hok
 rw [h.len] at e2
 have hm64 : m ≤ 64 := by
   have : (64 : Int) / sz ≤ 64 := Int.ediv_le_self _ (by omega)
   omega
 have H0 : Hid (ToI w m sz ss 0 0 (.slice none 0 0) w) := ⟨Below.refl _ _, by simpa [tot, pop, obA, obL, flat] using World.ownsRow_nil w w.heap.size 42 2⟩
 clear h hok
 unfold ptr at *
 go_enter Tryz.func85, Tryz.ntmps85
 go_wp2_with fail
 go_loopw [3, 4] (fun v a wr => ∃ i : Nat, a = .int .i64 i ∧ i ≤ ss.length ∧ Hid (ToI w m sz ss i 0 v wr)) (fun _ a _ => ss.length - (RowKit.intOf a).toNat)
 case atStart => exact ⟨0, rfl, Nat.zero_le _, H0⟩
 case round =>
   clear H0
   obtain ⟨i, rfl, hi, hR⟩ := hrel
   have hge : (0 : Int) ≤ i := by omega
   have e4 := ((unhide hR).b.cell (p := ⟨c, 2, none⟩) hcl).trans e2
   by_cases hin : i < ss.length
   · have hlt : (i : Int) < ss.length := by omega
     obtain ⟨b, t, s, eb, et, es, hS⟩ := (unhide H).slab hin
     obtain ⟨g, d', e2', hg, cg⟩ := (unhide H).row (by omega)
     rw [e2] at e2'
     simp only [Option.some.injEq, Value.slice.injEq, true_and] at e2'
     obtain ⟨rfl, rfl⟩ := e2'
     have cgb := cg i b eb
     unfold ptr at cgb
     have hbl := hS.tg.lt
     have htl := hS.tt.lt
     have hso := (unhide HOK) s (List.mem_of_getElem? es)
     have hgs : ss.getD i default = s := getD_at es
     have HK : Hid (∀ W, Below w.heap.size w W → W.cell? ⟨c, 2, none⟩ = some (.slice (some ⟨g, 0, none⟩) ss.length d) ∧ W.cell? ⟨c, 1, none⟩ = some (.int .i64 sz) ∧ W.cell? ⟨g, i, none⟩ = some (.pointer (some ⟨b, 0, none⟩)) ∧ W.cell? ⟨b, 0, none⟩ = some (.int .i64 s.nd) ∧ W.cell? ⟨b, 1, none⟩ = some (.int .i64 s.at_)) := fun W hW =>
       ⟨(hW.cell (p := ⟨c, 2, none⟩) hcl).trans e2, (hW.cell (p := ⟨c, 1, none⟩) hcl).trans (unhide H).c1, (hW.cell (p := ⟨g, i, none⟩) hg).trans cgb, (hW.cell (p := ⟨b, 0, none⟩) hbl).trans hS.c0, (hW.cell (p := ⟨b, 1, none⟩) hbl).trans hS.c1⟩
     have H1 := hR
     clear hR
     go_wp2_with fail
     go_loopw [3, 5] (fun v a wr => ∃ j : Nat, a = .int .i64 j ∧ j ≤ m ∧ Hid (ToI w m sz ss i j v wr)) (fun _ a _ => m - (RowKit.intOf a).toNat)
     case atStart => exact ⟨0, rfl, Nat.zero_le _, H1⟩
     case round =>
       clear H1 e4
       obtain ⟨j, rfl, hj, hR⟩ := hrel
       have hgj : (0 : Int) ≤ j := by omega
       have hB := (unhide hR).b
       obtain ⟨f2, f1, fg, f0, fa⟩ := (unhide HK) wr hB
       have f3 := (hB.cell (p := ⟨b, 3, none⟩) hbl).trans hS.c3
       by_cases hjm : j < m
       · have hjl : (j : Int) < m := by omega
         have fr := (hB.cell (p := ⟨t, j, none⟩) htl).trans (hS.row j hjm)
         have ho := (unhide hR).o
         rw [hgs] at ho
         cases hbit : s.bm.testBit j with
         | false =>
           rw [hbit] at fr
           have hR2 : Hid (ToI w m sz ss i (j + 1) _ wr) := ⟨hB, by rw [hgs, pop, obL, hbit]; simpa using ho⟩
           clear hR ho
           go_wp2_with fail
           go_roundw
           case rel => exact ⟨j + 1, by go_num, by omega, hR2⟩
           case measure => simp [RowKit.intOf]; omega
         | true =>
           rw [hbit] at fr
           have hmu := mul_in hmm.1 hmm.2.2 hjm
           have w1 : IntKind.i64.wrap (s.at_ * 64) = s.at_ * 64 := IntWalk.i64_in _ (by have := hso.1; have := hso.2.1; omega)
           have w2 : IntKind.i64.wrap ((j : Int) * sz) = (j : Int) * sz := IntWalk.i64_in _ (by omega)
           have w3 : IntKind.i64.wrap (s.at_ * 64 + (j : Int) * sz) = s.at_ * 64 + (j : Int) * sz := IntWalk.i64_in _ (by have := hso.1; have := hso.2.1; omega)
           have hq : flat (obA m sz ss i ++ obL sz (ss.getD i default) (j + 1)) = flat (obA m sz ss i ++ obL sz s j) ++ [.int .i64 s.nd, .int .i64 (s.at_ * 64 + j * sz)] := by
             rw [hgs, obL, hbit, if_pos rfl, ← List.append_assoc, flat_append]; rfl
           have hp1 : pop (ss.getD i default).bm (j + 1) = pop s.bm j + 1 := by rw [hgs, pop, hbit]; rfl
           have HQ := hide hq
           have HP1 := hide hp1
           have ht1 := tot_le m ss i
           have ht2 := pop_le s.bm j
           have hmi : i * m ≤ 10000 * 64 := Nat.mul_le_mul (by omega) hm64
           have hmax : tot m ss i + pop s.bm j ≤ 700000 := by omega
           have HMX := hide hmax
           have HK5 : Hid (∀ W', Below wr.heap.size wr W' → W'.cell? ⟨c, 2, none⟩ = some (.slice (some ⟨g, 0, none⟩) ss.length d) ∧ W'.cell? ⟨c, 1, none⟩ = some (.int .i64 sz) ∧ W'.cell? ⟨g, i, none⟩ = some (.pointer (some ⟨b, 0, none⟩)) ∧ W'.cell? ⟨b, 0, none⟩ = some (.int .i64 s.nd) ∧ W'.cell? ⟨b, 1, none⟩ = some (.int .i64 s.at_)) := fun W' hW' => (unhide HK) W' (btr hB hW')
           have U0 := own_b ho (drw wr)
           have HU := hide U0
           have HB := hide hB
           have HBW := hide (unhide hR).b.size
           generalize hnx : tot m ss i + pop s.bm j = nx at *
           have HNX := hide hnx
           have hnx7 := unhide HMX
           generalize hxs : flat (obA m sz ss i ++ obL sz s j) = xs at *
           clear hR ho hq hp1 ht1 ht2 hmi hmax hmu hbit hnx hxs U0 hB
           go_wp2_with fail
           go_region_held_law (fun W' => W'.cell? ⟨c, 2, none⟩ = some (.slice (some ⟨g, 0, none⟩) ss.length d) ∧ W'.cell? ⟨c, 1, none⟩ = some (.int .i64 sz) ∧ W'.cell? ⟨g, i, none⟩ = some (.pointer (some ⟨b, 0, none⟩)) ∧ W'.cell? ⟨b, 0, none⟩ = some (.int .i64 s.nd) ∧ W'.cell? ⟨b, 1, none⟩ = some (.int .i64 s.at_)) (first | exact (unhide HK5) _ (drw _) | exact (unhide HK5) _ (ballo (drw _) _) | exact (unhide HK) _ (by assumption) | (go_keep; done)) ((refine step_append_lies _ rfl (.tmp 43) (.tmp 76) 45 rfl w.heap.size 42 i0 (.agg #[.int .i64 0, .int .i64 0]) 2 16 Tryz.underlying45 (unhide HI) (unhide HZ) (unhide HZ1) (unhide HZ2) rfl (by decide) _ nx xs (by simp [Act.eval]) ((unhide HU).alloc _) ⟨wr.heap.size, 0, none⟩ 1 1 [.int .i64 s.nd, .int .i64 (s.at_ * 64 + j * sz)] (by simp [Act.eval]) rfl (by intro j u hj; match j, hj with | 0, hj => (simp at hj; subst hj; simp [Addr.add]) | 1, hj => (simp at hj; subst hj; simp [Addr.add])) (by intro u hu; simp at hu; rcases hu with rfl | rfl <;> rfl) (by omega) (by have := unhide HMX; unfold maxLen; omega) (by omega) (by have := unhide HBW; simp; omega) _ rfl ?_; intro g4 c4 w4 o4 q4 _ _; have B4 : Below w.heap.size w w4 := ((btr (unhide HB) (drw wr)).alloc (unhide HBW) _).grown q4 (by have := unhide HBW; simp; omega) (own_row (unhide HU))))
           have HT : Hid (ToI w m sz ss i (j + 1) (.slice (some ⟨g4, 0, none⟩) (nx + 1) c4) w4) := ⟨B4, by rw [unhide HQ, unhide HP1, ← Nat.add_assoc, unhide HNX]; exact o4⟩
           clear B4 o4 q4
           go_wp2_with fail
           go_roundw
           case rel => exact ⟨j + 1, by go_num, by omega, HT⟩
           case measure => simp [RowKit.intOf]; omega
       · have hjl : ¬ (j : Int) < m := by omega
         obtain rfl : j = m := by omega
         have hR2 : Hid (ToI w j sz ss (i + 1) 0 _ wr) := ⟨hB, by have := (unhide hR).o; rw [tot, obA]; simpa [pop, obL] using this⟩
         clear hR
         go_wp2_with fail
         go_roundw
         case rel => exact ⟨i + 1, by go_num, by omega, hR2⟩
         case measure => simp [RowKit.intOf]; omega
   · have hlt : ¬ (i : Int) < ss.length := by omega
     obtain rfl : i = ss.length := by omega
     have hb := (unhide hR).b
     have ho := (unhide hR).o
     simp only [Nat.add_zero, pop, obL, List.append_nil] at ho
     clear hR
     go_wp2_with fail
     go_ret
     exact ⟨_, rfl, ho, hb⟩
end Sb
end Go.Proofs.YtfefehkapffljaaGreatDoor
