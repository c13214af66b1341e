/- C3. -/
import Derived.Test.YtfefehkapffljaaGreatDoorCA
import Derived.Test.YtfefehkapffljaaGreatDoorKK
import Derived.BigRegion
import Derived.BigQuiet
import Derived.Deep.RegionHeld3
namespace Go.Proofs.YtfefehkapffljaaGreatDoor
open Go.RowKit Go.Maps
namespace Sb
open Fr Bd Zn Dz
theorem nodup_at {l : List Nat} (h : l.Nodup) {i j a : Nat} (hi : l[i]? = some a) (hj : l[j]? = some a) : i = j := by
 obtain ⟨h1, e1⟩ := List.getElem?_eq_some_iff.mp hi
 obtain ⟨h2, e2⟩ := List.getElem?_eq_some_iff.mp hj
 have hp := List.pairwise_iff_getElem.mp h
 rcases Nat.lt_trichotomy i j with q | q | q
 · exact absurd (e1.trans e2.symm) (hp i j h1 h2 q)
 · exact q
 · exact absurd (e2.trans e1.symm) (hp j i h2 h1 q)
section
variable {N0 : Nat} {w w' : World} {c z : Nat} {sz : Int} {m : Nat} {bs ts : List Nat} {ss : List Sl}
theorem RC.turn (h : RC N0 w c z sz m bs ts ss) {i b t : Nat} {s : Sl} (eb : bs[i]? = some b) (et : ts[i]? = some t) (es : ss[i]? = some s) {k : Nat} (x : Nat) (v : Bool) (hk : k < m) (h1 : x.testBit k = v) (h2 : ∀ j, j ≠ k → x.testBit j = s.bm.testBit j) : RC N0 (w.setCell ⟨t, k, none⟩ (.bool v)) c z sz m bs ts (ss.set i { s with bm := x }) ∧ Chg [some 4] N0 w (w.setCell ⟨t, k, none⟩ (.bool v)) := by
 have hS := h.sl i b t s eb et es
 have hc : Chg [some 4] N0 w (w.setCell ⟨t, k, none⟩ (.bool v)) := Chg.set hS.tt (h.gt t (List.mem_of_getElem? et)) k _
 have hsm : Same [66, 140, 143] w (w.setCell ⟨t, k, none⟩ (.bool v)) := hc.toSame (by decide)
 obtain ⟨p, d, e2, o2⟩ := h.c2
 have hcl := fun j => cell_same hsm (by simp) h.tg j
 have hi : i < ss.length := (List.getElem?_eq_some_iff.mp es).1
 refine ⟨⟨(hcl 0).trans h.c0, (hcl 1).trans h.c1, ⟨p, d, (hcl 2).trans e2, own_same o2 hsm (by simp)⟩, tag_same hsm (by simp) h.tg, h.ge, by rw [List.length_set]; exact h.len, by rw [List.length_set]; exact h.lt, h.tn, h.gt, fun j b' t' s' e1 e3 e4 => ?_, fun o => (World.frozen?_of_block (w := w) (a := ⟨c, o, none⟩) (hsm c 66 (by simp) h.tg)).trans (h.cf o)⟩, hc⟩
 by_cases e : j = i
 · subst e
   rw [List.getElem?_set_self hi] at e4
   rw [eb] at e1
   rw [et] at e3
   cases e1; cases e3; cases e4
   have hb := hsm b 143 (by simp) hS.tg
   refine ⟨(World.cell?_of_block (w := w) (a := ⟨b, 0, none⟩) hb).trans hS.c0, (World.cell?_of_block (w := w) (a := ⟨b, 1, none⟩) hb).trans hS.c1, (World.cell?_of_block (w := w) (a := ⟨b, 2, none⟩) hb).trans hS.c2, (World.cell?_of_block (w := w) (a := ⟨b, 3, none⟩) hb).trans hS.c3, fun q hq => ?_, hS.tg.blk hb, hS.tt.set _ _, fun o => by rw [World.frozen?_setCell]; exact hS.fz o⟩
   by_cases hqk : q = k
   · subst hqk
     rw [css (hS.row q hq), h1]
   · have hne : (⟨t, k, none⟩ : Addr) ≠ ⟨t, q, none⟩ := fun e => hqk (by cases e; rfl)
     rw [cso hne, hS.row q hq, h2 q hqk]
 · rw [List.getElem?_set_ne (Ne.symm e)] at e4
   have h3 := h.sl j b' t' s' e1 e3 e4
   have hne : t' ≠ t := fun e2 => by
     subst e2
     exact e (nodup_at h.tn e3 et)
   exact h3.same (hsm b' 143 (by simp) h3.tg) (Below.heap_setCell _ _ _ _ hne)
end
inductive RgS (N0 : Nat) (c z : Nat) (sz : Int) (m : Nat) (bs ts : List Nat) (ss : List Sl) (oN oA : Int) (w : World) : Ending → World → Prop
 | no (w' : World) (hb : Below w.heap.size w w') (hr : ∀ j i, ¬ GiveAt m sz ss (oN, oA) j i) : RgS N0 c z sz m bs ts ss oN oA w (.returned (.int .i64 9)) w'
 | yes (j i : Nat) (s : Sl) (w' : World) (hg : GiveAt m sz ss (oN, oA) j i) (hs : ss[j]? = some s)
   (hp : RC N0 w' c z sz m bs ts (ss.set j { s with bm := s.bm &&& (18446744073709551615 - 2 ^ i) })) (hc : Chg [some 4] N0 w w') : RgS N0 c z sz m bs ts ss oN oA w (.returned (.int .i64 0)) w'
set_option maxRecDepth 100000 in
set_option maxHeartbeats 16000000 in
theorem rgive_ok (N0 : Nat) (c z : Nat) (sz : Int) (m : Nat) (bs ts : List Nat) (ss : List Sl) (oN oA : Int) (w : World) (h : RC N0 w c z sz m bs ts ss) (hok : ∀ s ∈ ss, sok m s) (hmm : 1 ≤ sz ∧ sz ≤ 64 ∧ (m : Int) = 64 / sz) (hn : ss.length ≤ 10000) :
   Calls Tryz.prog 26 #[ptr c, objV oN oA] w fun ev w' => RgS N0 c z sz m bs ts ss oN oA w ev w' := by
 obtain ⟨p, d, e2, _⟩ := h.c2
 have hcl := h.tg.lt
 have F1 := ballo (Below.refl w.heap.size w) (.cells #[.int .i64 oN, .int .i64 oA] 42)
 have q := World.cell?_alloc_new w #[.int .i64 oN, .int .i64 oA] 42
 have q0 := q 0
 have q1 := q 1
 simp only [List.getElem?_toArray, List.getElem?_cons_zero, List.getElem?_cons_succ] at q0 q1
 have hs1 : w.heap.size < (w.alloc (.cells #[.int .i64 oN, .int .i64 oA] 42)).heap.size := by simp
 have H := hide h
 have HOK := hide hok
 rw [h.len] at e2
 have hm64 : m ≤ 64 := by
   have : (64 : Int) / sz ≤ 64 := Int.ediv_le_self _ (by omega)
   omega
 have HMM := hide hmm
 have RN : Hid (∀ w', Below w.heap.size w w' → (∀ j i, ¬ GiveAt m sz ss (oN, oA) j i) → RgS N0 c z sz m bs ts ss oN oA w (.returned (.int .i64 9)) w') := fun w' h1 h2 => .no w' h1 h2
 have RY : Hid (∀ j i s w', GiveAt m sz ss (oN, oA) j i → ss[j]? = some s → RC N0 w' c z sz m bs ts (ss.set j { s with bm := s.bm &&& (18446744073709551615 - 2 ^ i) }) → Chg [some 4] N0 w w' → RgS N0 c z sz m bs ts ss oN oA w (.returned (.int .i64 0)) w') := fun j i s w' h1 h2 h3 h4 => .yes j i s w' h1 h2 h3 h4
 clear h hok q hmm
 generalize RgS N0 c z sz m bs ts ss oN oA w = TR at *
 unfold ptr objV at *
 have hnode : ∀ i, i < ss.length → True := fun _ _ => trivial
 go_enter Tryz.func26, Tryz.ntmps26
 go_upto_region 1 with (fail)
 have HF : Hid (Below w.heap.size w (w.alloc (.cells #[.int .i64 oN, .int .i64 oA] 42))) := F1
 generalize w.alloc (.cells #[.int .i64 oN, .int .i64 oA] 42) = W at *
 clear F1 hnode
 go_wp2_with fail
 go_loopw [5] (fun a wr => ∃ i : Nat, a = .int .i64 i ∧ i ≤ ss.length ∧ Hid (Below W.heap.size W wr) ∧ Hid (∀ j k, j < i → ¬ GiveAt m sz ss (oN, oA) j k)) (fun a _ => ss.length - (RowKit.intOf a).toNat)
 case atStart => exact ⟨0, rfl, Nat.zero_le _, Below.refl _ _, fun j k hj => by omega⟩
 case round =>
   obtain ⟨i, rfl, hi, hB, hNo⟩ := hrel
   have hge : (0 : Int) ≤ i := by omega
   have hBw := btr (unhide HF) (unhide hB)
   have e4 := (hBw.cell (p := ⟨c, 2, none⟩) hcl).trans e2
   by_cases hin : i < ss.length
   · have hlt : (i : Int) < ss.length := by omega
     obtain ⟨b, t, s, eb, et, es, hS⟩ := (unhide H).slab hin
     obtain ⟨g, d', e2', hg, cg⟩ := (unhide H).row (by omega)
     rw [e2] at e2'
     simp only [Option.some.injEq, Value.slice.injEq, true_and] at e2'
     obtain ⟨rfl, rfl⟩ := e2'
     have cgb := cg i b eb
     unfold ptr at cgb
     have hbl := hS.tg.lt
     have htl := hS.tt.lt
     have hso := (unhide HOK) s (List.mem_of_getElem? es)
     have hat0 := hso.1
     have hat1 := hso.2.1
     have HK : Hid (∀ wr, Below W.heap.size W wr → wr.cell? ⟨c, 2, none⟩ = some (.slice (some ⟨g, 0, none⟩) ss.length d) ∧ wr.cell? ⟨c, 1, none⟩ = some (.int .i64 sz) ∧ wr.cell? ⟨g, i, none⟩ = some (.pointer (some ⟨b, 0, none⟩)) ∧ wr.cell? ⟨b, 0, none⟩ = some (.int .i64 s.nd) ∧ wr.cell? ⟨b, 1, none⟩ = some (.int .i64 s.at_) ∧ wr.cell? ⟨b, 3, none⟩ = some (.slice (some ⟨t, 0, none⟩) m m) ∧ wr.cell? ⟨w.heap.size, 0, none⟩ = some (.int .i64 oN) ∧ wr.cell? ⟨w.heap.size, 1, none⟩ = some (.int .i64 oA) ∧ RSl wr b t m s) := fun wr hB => by
       have hW := btr (unhide HF) hB
       exact ⟨(hW.cell (p := ⟨c, 2, none⟩) hcl).trans e2, (hW.cell (p := ⟨c, 1, none⟩) hcl).trans (unhide H).c1, (hW.cell (p := ⟨g, i, none⟩) hg).trans cgb, (hW.cell (p := ⟨b, 0, none⟩) hbl).trans hS.c0, (hW.cell (p := ⟨b, 1, none⟩) hbl).trans hS.c1, (hW.cell (p := ⟨b, 3, none⟩) hbl).trans hS.c3, (hB.cell (p := ⟨w.heap.size, 0, none⟩) hs1).trans q0, (hB.cell (p := ⟨w.heap.size, 1, none⟩) hs1).trans q1, hS.b hW⟩
     have HGA : Hid (∀ k, k < m → s.bm.testBit k = true → oN = s.nd → oA = s.at_ * 64 + k * sz → GiveAt m sz ss (oN, oA) i k) := fun k h1 h2 h3 h4 => ⟨s, es, h1, h2, h3, h4⟩
     have HGN : Hid (∀ k, GiveAt m sz ss (oN, oA) i k → k < m ∧ s.bm.testBit k = true ∧ oN = s.nd ∧ oA = s.at_ * 64 + k * sz) := fun k ⟨s', h1, h2, h3, h4, h5⟩ => by
       rw [es] at h1; cases h1; exact ⟨h2, h3, h4, h5⟩
     have HES := hide es
     have HEB := hide eb
     have HET := hide et
     have HSO := hide hso
     clear hBw hS cg hso es eb et cgb
     go_wp2_with fail
     go_loopw [6] (fun a wr => ∃ k : Nat, a = .int .i64 k ∧ k ≤ m ∧ Hid (Below W.heap.size W wr) ∧ Hid (∀ k', k' < k → ¬ GiveAt m sz ss (oN, oA) i k')) (fun a _ => m - (RowKit.intOf a).toNat)
     case atStart => exact ⟨0, rfl, Nat.zero_le _, hB, fun k hk => by omega⟩
     case round =>
       clear hB e4
       obtain ⟨k, rfl, hk, hB, hN2⟩ := hrel
       have hgk : (0 : Int) ≤ k := by omega
       obtain ⟨f2, f1, fg, f0, fa, f3, fo0, fo1, hSr⟩ := (unhide HK) wr (unhide hB)
       by_cases hkm : k < m
       · have hkl : (k : Int) < m := by omega
         have hsz := (unhide HMM).1
         have hmu := mul_in (unhide HMM).1 (unhide HMM).2.2 hkm
         have w1 : IntKind.i64.wrap (s.at_ * 64) = s.at_ * 64 := IntWalk.i64_in _ (by omega)
         have w2 : IntKind.i64.wrap ((k : Int) * sz) = (k : Int) * sz := IntWalk.i64_in _ (by omega)
         have w3 : IntKind.i64.wrap (s.at_ * 64 + (k : Int) * sz) = s.at_ * 64 + (k : Int) * sz := IntWalk.i64_in _ (by omega)
         clear hmu hSr
         have HK5 : Hid (∀ W', Below wr.heap.size wr W' → W'.cell? ⟨c, 2, none⟩ = some (.slice (some ⟨g, 0, none⟩) ss.length d) ∧ W'.cell? ⟨c, 1, none⟩ = some (.int .i64 sz) ∧ W'.cell? ⟨g, i, none⟩ = some (.pointer (some ⟨b, 0, none⟩)) ∧ W'.cell? ⟨b, 0, none⟩ = some (.int .i64 s.nd) ∧ W'.cell? ⟨b, 1, none⟩ = some (.int .i64 s.at_)) := fun W' hW' => by
           obtain ⟨a2, a1, ag, a0, aa, _⟩ := (unhide HK) W' (btr (unhide hB) hW')
           exact ⟨a2, a1, ag, a0, aa⟩
         go_upto_region 7 with (fail)
         clear fo0 fo1 f3
         go_region_held3 (fun W' => W'.cell? ⟨c, 2, none⟩ = some (.slice (some ⟨g, 0, none⟩) ss.length d) ∧ W'.cell? ⟨c, 1, none⟩ = some (.int .i64 sz) ∧ W'.cell? ⟨g, i, none⟩ = some (.pointer (some ⟨b, 0, none⟩)) ∧ W'.cell? ⟨b, 0, none⟩ = some (.int .i64 s.nd) ∧ W'.cell? ⟨b, 1, none⟩ = some (.int .i64 s.at_)) (first | exact (unhide HK5) _ (drw _) | exact (unhide HK5) _ (ballo (drw _) _) | exact (unhide HK5) _ ((ballo (drw _) _).setCell (Nat.le_refl _) _) | exact (unhide HK5) _ (((ballo (drw _) _).setCell (Nat.le_refl _) _).setCell (Nat.le_refl _) _) | (go_keep; done)) (fail)
         generalize hq : s.at_ * 64 + (k : Int) * sz = q at *
         have HB5 : Hid (Below W.heap.size W (wr.alloc (.cells #[.int .i64 (s.nd : Int), .int .i64 q] 42)).drew) := ((ballo (unhide hB) _).drew)
         have n := World.cell?_alloc_new wr #[.int .i64 (s.nd : Int), .int .i64 q] 42
         have m0 : (wr.alloc (.cells #[.int .i64 (s.nd : Int), .int .i64 q] 42)).drew.cell? ⟨wr.heap.size, 0, none⟩ = some (.int .i64 (s.nd : Int)) := n 0
         have m1 : (wr.alloc (.cells #[.int .i64 (s.nd : Int), .int .i64 q] 42)).drew.cell? ⟨wr.heap.size, 1, none⟩ = some (.int .i64 q) := n 1
         clear n f2 f1 fg f0 fa HK5
         generalize (wr.alloc (.cells #[.int .i64 (s.nd : Int), .int .i64 q] 42)).drew = W5 at *
         obtain ⟨f2, f1, fg, f0, fa, f3, fo0, fo1, hSr⟩ := (unhide HK) W5 (unhide HB5)
         have fr := hSr.row k hkm
         have ff := hSr.fz k
         clear hSr w1 w2 w3 f1
         cases hbit : s.bm.testBit k with
         | false =>
           rw [hbit] at fr
           have hN3 : Hid (∀ k', k' < k + 1 → ¬ GiveAt m sz ss (oN, oA) i k') := fun k' hk' hg => by
             rcases Nat.lt_or_ge k' k with h | h
             · exact (unhide hN2) k' h hg
             · obtain rfl : k' = k := by omega
               have := ((unhide HGN) k' hg).2.1
               rw [hbit] at this
               cases this
           clear hbit hq
           go_wp2_with fail
           go_roundw
           case rel => exact ⟨k + 1, by go_num, by omega, HB5, hN3⟩
           case measure => simp [RowKit.intOf]; omega
         | true =>
           rw [hbit] at fr
           by_cases h1 : (s.nd : Int) = oN
           · by_cases h2 : q = oA
             · have hg := (unhide HGA) k hkm hbit h1.symm (h2.symm.trans hq.symm)
               have HG := hide hg
               subst h2
               have BW5 := hide (btr (unhide HF) (unhide HB5))
               have HRT := hide (((unhide H).b (unhide BW5)).turn (unhide HEB) (unhide HET) (unhide HES) (k := k) (s.bm &&& (18446744073709551615 - 2 ^ k)) false hkm (by rw [tb_clear s.bm k k (by omega) (pow_le64 (unhide HSO).2.2.1 hm64)]; simp) (fun j hj => by rw [tb_clear s.bm k j (by omega) (pow_le64 (unhide HSO).2.2.1 hm64)]; simp [Ne.symm hj]))
               clear hg hbit hq hN2 hNo
               rw [h1] at m0
               go_wp2_with fail
               exact (unhide RY) i k s _ (unhide HG) (unhide HES) (unhide HRT).1 ((Chg.below (unhide BW5)).trans (unhide HRT).2)
             · have hN3 : Hid (∀ k', k' < k + 1 → ¬ GiveAt m sz ss (oN, oA) i k') := fun k' hk' hg => by
                 rcases Nat.lt_or_ge k' k with h | h
                 · exact (unhide hN2) k' h hg
                 · obtain rfl : k' = k := by omega
                   exact h2 (hq.symm.trans ((unhide HGN) k' hg).2.2.2.symm)
               have e1 : (q == oA) = false := by simpa using h2
               have e2 : decide (q = oA) = false := by simpa using h2
               clear hbit hq
               go_wp2_with fail
               go_roundw
               case rel => exact ⟨k + 1, by go_num, by omega, HB5, hN3⟩
               case measure => simp [RowKit.intOf]; omega
           · have hN3 : Hid (∀ k', k' < k + 1 → ¬ GiveAt m sz ss (oN, oA) i k') := fun k' hk' hg => by
               rcases Nat.lt_or_ge k' k with h | h
               · exact (unhide hN2) k' h hg
               · obtain rfl : k' = k := by omega
                 exact h1 (((unhide HGN) k' hg).2.2.1.symm)
             have e1 : ((s.nd : Int) == oN) = false := by simpa using h1
             have e2 : decide ((s.nd : Int) = oN) = false := by simpa using h1
             clear hbit hq
             go_wp2_with fail
             go_roundw
             case rel => exact ⟨k + 1, by go_num, by omega, HB5, hN3⟩
             case measure => simp [RowKit.intOf]; omega
       · have hkl : ¬ (k : Int) < m := by omega
         have hNo2 : Hid (∀ j k, j < i + 1 → ¬ GiveAt m sz ss (oN, oA) j k) := fun j k' hj => by
           rcases Nat.lt_or_ge j i with hji | hji
           · exact (unhide hNo) j k' hji
           · obtain rfl : j = i := by omega
             exact fun hg => (unhide hN2) k' (by have := ((unhide HGN) k' hg).1; omega) hg
         clear hSr hN2
         go_wp2_with fail
         go_roundw
         case rel => exact ⟨i + 1, by go_num, by omega, hB, hNo2⟩
         case measure => simp [RowKit.intOf]; omega
   · have hlt : ¬ (i : Int) < ss.length := by omega
     have hno : ∀ j k, ¬ GiveAt m sz ss (oN, oA) j k := fun j k ⟨s, h1, h2⟩ => (unhide hNo) j k (by have := (List.getElem?_eq_some_iff.mp h1).1; omega) ⟨s, h1, h2⟩
     have RES := hide ((unhide RN) wr hBw hno)
     clear hNo hno hBw
     go_wp2_with fail
     exact unhide RES
end Sb
end Go.Proofs.YtfefehkapffljaaGreatDoor
