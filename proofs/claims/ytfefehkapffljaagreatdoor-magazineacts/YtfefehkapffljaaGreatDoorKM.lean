/- K24 · K25 · K26 · K27 · K28 · K29 · K30 · K31. -/
import Derived.Test.YtfefehkapffljaaGreatDoorKK
import Derived.Test.YtfefehkapffljaaGreatDoorKG
import Derived.Test.YtfefehkapffljaaGreatDoorKI
import Derived.Deep.Slices
import Derived.ChangeSame
namespace Go.Proofs.YtfefehkapffljaaGreatDoor
open Go.RowKit Go.Maps
namespace Sb
open Fr Bd Zn Dz
end Sb
end Go.Proofs.YtfefehkapffljaaGreatDoor
namespace Go.Proofs.YtfefehkapffljaaGreatDoor
open Go.RowKit Go.Maps
namespace Sb
open Fr Bd Zn Dz
end Sb
end Go.Proofs.YtfefehkapffljaaGreatDoor
namespace Go.Proofs.YtfefehkapffljaaGreatDoor
open Go.RowKit Go.Maps
namespace Sb
open Fr Bd Zn Dz
theorem info42o : (Tryz.prog.info? 42).map (fun i => (i.zero, i.size, i.bytes)) = some (some (.agg #[.int .i64 0, .int .i64 0]), 2, 16) := by kernel_rfl
theorem eg34 : ∀ args w, (callFunc 50 args).run Tryz.prog w = .ok (.enter 50 args) w := enters_of Tryz.func50 (by kernel_rfl) rfl
structure Ob (base : Nat) (w : World) (r n : Nat) (xs : List Value) : Prop where
 c : ∃ v, w.cell? ⟨r, 0, none⟩ = some v ∧ w.ownsRow base 42 2 v n xs
 f : w.frozen? ⟨r, 0, none⟩ = false
 t : Tag w r 45
 g : base ≤ r
theorem own_nb {w : World} {base e size n : Nat} {v : Value} {xs : List Value} (h : w.ownsRow base e size v n xs) {b t : Nat} (ht : Tag w b t) (hne : t ≠ e) : some b ≠ v.ownBlock := fun e' => by
 rcases h.2 with ⟨e2, _⟩ | ⟨g, cap, cur, e2, hg, hh, _⟩
 · rw [e2] at e'; cases e'
 · rw [e2] at e'
   simp only [Value.ownBlock, Option.some.injEq] at e'
   subst e'
   exact ht.ne ⟨cur, _, hh⟩ hne rfl
def TkR (base lb n : Nat) (xs : List Value) (bit : Bool) (u v : Value) (w : World) (ev : Ending) (w' : World) : Prop := ev = .returned (.tuple #[]) ∧ Below base w w' ∧ Ob base w' lb (if bit then n + 1 else n) (if bit then xs ++ [u, v] else xs)
set_option maxRecDepth 100000 in
set_option maxHeartbeats 8000000 in
theorem tk1_ok (base lb cb c b j n : Nat) (sz : Int) (s : Sl) (xs : List Value) (w : World) (hL : Ob base w lb n xs) (hbw : base ≤ w.heap.size) (hcb : w.cell? ⟨cb, 0, none⟩ = some (ptr c)) (hc1 : w.cell? ⟨c, 1, none⟩ = some (.int .i64 sz)) (h0 : w.cell? ⟨b, 0, none⟩ = some (.int .i64 s.nd)) (h1 : w.cell? ⟨b, 1, none⟩ = some (.int .i64 s.at_)) (h3 : w.cell? ⟨b, 3, none⟩ = some (.int .u64 s.bm)) (hj : j < 64) (hb : s.bm < 18446744073709551616) (ha : 0 ≤ s.at_ ∧ s.at_ < 256) (hs : 1 ≤ sz ∧ sz ≤ 64) (hn : n ≤ 1000000) :
   Calls Tryz.prog 50 (#[ptr b, .int .i64 (j : Int)] ++ #[ptr lb, ptr cb]) w fun ev w' => TkR base lb n xs (s.bm.testBit j) (.int .i64 s.nd) (.int .i64 (s.at_ * 64 + j * sz)) w ev w' := by
 have HS := hide (shas_ok b j s.bm w h3 hj hb)
 rw [show (#[ptr b, Value.int .i64 (j : Int)] ++ #[ptr lb, ptr cb] : Array Value) = #[ptr b, .int .i64 (j : Int), ptr lb, ptr cb] from rfl]
 have HOB := hide (fun w4 (hb : Below w.heap.size w w4) => obj_ok c b sz s.nd s.at_ j w4 ((hb.cell (p := ⟨b, 0, none⟩) (World.block_lt_of_cell? w _ h0)).trans h0) ((hb.cell (p := ⟨b, 1, none⟩) (World.block_lt_of_cell? w _ h1)).trans h1) ((hb.cell (p := ⟨c, 1, none⟩) (World.block_lt_of_cell? w _ hc1)).trans hc1) ha hs ⟨by omega, by omega⟩)
 obtain ⟨v, lv, lo⟩ := hL.c
 have lf := hL.f
 have HLB := hide hL
 have HLO := hide lo
 have lbl := hL.t.lt
 clear h0 h1 h3 hc1 hL lo
 generalize (s.nd : Int) = nd at *
 generalize s.at_ * 64 + (j : Int) * sz = q at *
 unfold ptr objV at *
 cases hbit : s.bm.testBit j with
 | false =>
   rw [hbit] at HS
   go_enter Tryz.func50, Tryz.ntmps50
   go_wp2_with (go_at_call 51; refine (unhide HS).mono ?_; rintro ev w3 ⟨rfl, rfl⟩)
   go_end0
   exact ⟨rfl, Below.refl _ _, unhide HLB⟩
 | true =>
   rw [hbit] at HS
   clear hbit
   obtain ⟨i0, hi0, hz0, hz1, hz2⟩ := info_parts info42o
   have HI := hide hi0
   have HZ := hide hz0
   have HZ1 := hide hz1
   have HZ2 := hide hz2
   clear hi0 hz0 hz1 hz2
   go_enter Tryz.func50, Tryz.ntmps50
   go_wp2_with (go_at_call 51; refine (unhide HS).mono ?_; rintro ev w3 ⟨rfl, rfl⟩)
   have tk : True := trivial
   go_region_law (first
     | (have _t := tk; go_simp; go_at_call 52; refine ((unhide HOB) _ (drw _)).mono ?_; rintro ev w2 ⟨rfl, b2⟩; have C2 : Below w3.heap.size w3 w2 := bd (w := w3) b2; have U2 := own_b (unhide HLO) C2; have l2 := (C2.cell (p := ⟨lb, 0, none⟩) lbl).trans lv; have l2a := fun o => ((ballo (Below.refl w2.heap.size w2) o).cell (p := ⟨lb, 0, none⟩) (Nat.lt_of_lt_of_le lbl C2.size)).trans l2; clear tk)
     | (refine step_append_lies _ rfl (.tmp 9) (.tmp 14) 45 rfl base 42 i0 (.agg #[.int .i64 0, .int .i64 0]) 2 16 Tryz.underlying45 (unhide HI) (unhide HZ) (unhide HZ1) (unhide HZ2) rfl (by decide) v n xs (by simp [Act.eval]) (U2.alloc _) ⟨w2.heap.size, 0, none⟩ 1 1 [.int .i64 nd, .int .i64 q] (by simp [Act.eval]) rfl (by intro j u hj; match j, hj with | 0, hj => (simp at hj; subst hj; simp [Addr.add]) | 1, hj => (simp at hj; subst hj; simp [Addr.add])) (by intro u hu; simp at hu; rcases hu with rfl | rfl <;> rfl) (by omega) (by unfold maxLen; omega) (by omega) (by have := C2.size; simp; omega) _ rfl ?_; intro g4 c4 w4 o4 q4 _ _; have B4 : Below base w3 w4 := ((C2.mono hbw).alloc (Nat.le_trans hbw C2.size) _).grown q4 (by have := C2.size; simp; omega) (own_row U2); have T4 := (((unhide HLB).t.blk (C2.block lb lbl)).blk ((ballo (Below.refl w2.heap.size w2) (.cells #[.int .i64 nd, .int .i64 q] 42)).block lb (Nat.lt_of_lt_of_le lbl C2.size))); have e4 := q4.block lb T4.lt (own_nb (U2.alloc _) T4 (by decide)); have zc4 : w4.cell? ⟨lb, 0, none⟩ = some v := (World.cell?_of_block (a := ⟨lb, 0, none⟩) e4).trans (l2a _); have zf4 : w4.frozen? ⟨lb, 0, none⟩ = false := (World.frozen?_of_block (a := ⟨lb, 0, none⟩) e4).trans (((ballo (Below.refl w2.heap.size w2) _).frozen (p := ⟨lb, 0, none⟩) (Nat.lt_of_lt_of_le lbl C2.size)).trans ((C2.frozen (p := ⟨lb, 0, none⟩) lbl).trans lf))))
   all_goals
     have RES : TkR base lb n xs true (.int .i64 nd) (.int .i64 q) w3 (.returned (.tuple #[])) (w4.setCell ⟨lb, 0, none⟩ (.slice (some ⟨g4, 0, none⟩) (n + 1) c4)) := by
       refine ⟨rfl, B4.setCell (unhide HLB).g _, ⟨_, css zc4, ?_⟩, by rw [World.frozen?_setCell]; exact zf4, (T4.blk e4).set _ _, (unhide HLB).g⟩
       exact own_same o4 ((Chg.set (N := 0) (T4.blk e4) (Nat.zero_le _) 0 _).toSame (us := [42]) (by simp)) (by simp)
     go_end0
     exact RES
def obL (sz : Int) (s : Sl) : Nat → List Bl
 | 0 => []
 | j + 1 => if s.bm.testBit j then obL sz s j ++ [((s.nd : Int), s.at_ * 64 + j * sz)] else obL sz s j
def obA (m : Nat) (sz : Int) (ss : List Sl) : Nat → List Bl
 | 0 => []
 | i + 1 => obA m sz ss i ++ obL sz (ss.getD i default) m
theorem obL_len (sz : Int) (s : Sl) : ∀ j, (obL sz s j).length = pop s.bm j
 | 0 => by simp [obL, pop]
 | j + 1 => by
   have h := obL_len sz s j
   rw [obL, pop]
   split
   · rw [List.length_append, h]; rfl
   · rw [h]; rfl
theorem obA_len (m : Nat) (sz : Int) (ss : List Sl) : ∀ i, (obA m sz ss i).length = tot m ss i
 | 0 => by simp [obA, tot]
 | i + 1 => by rw [obA, tot, List.length_append, obA_len m sz ss i, obL_len]
structure TnI (W0 : World) (m : Nat) (sz : Int) (ss : List Sl) (lb : Nat) (i j : Nat) (W : World) : Prop where
 b : Below lb W0 W
 o : Ob lb W lb (tot m ss i + pop (ss.getD i default).bm j) (flat (obA m sz ss i ++ obL sz (ss.getD i default) j))
set_option maxRecDepth 100000 in
set_option maxHeartbeats 8000000 in
theorem taken_ok (N0 : Nat) (c z : Nat) (ly : Ly) (sz : Int) (m : Nat) (bs : List Nat) (ss : List Sl) (w : World) (h : DC N0 w c z ly sz m bs ss) (hn : ss.length ≤ 10000) :
   Calls Tryz.prog 14 #[ptr c] w fun ev w' => ∃ v, ev = .returned v ∧ w'.ownsRow (w.heap.size + 1) 42 2 v (tot m ss ss.length) (flat (obA m sz ss ss.length)) ∧ Below w.heap.size w w' := by
 have F2 := ballo (ballo (Below.refl w.heap.size w) (.cells #[ptr c] 38)) (.cells #[.slice none 0 0] 45)
 have hs1 : (w.alloc (.cells #[ptr c] 38)).heap.size = w.heap.size + 1 := by simp
 have hs2 : ((w.alloc (.cells #[ptr c] 38)).alloc (.cells #[.slice none 0 0] 45)).heap.size = w.heap.size + 2 := by simp
 have n1 : ((w.alloc (.cells #[ptr c] 38)).alloc (.cells #[.slice none 0 0] 45)).cell? ⟨w.heap.size, 0, none⟩ = some (ptr c) :=
   ((ballo (Below.refl _ _) _).cell (p := ⟨w.heap.size, 0, none⟩) (by simp)).trans (World.cell?_alloc_new w #[ptr c] 38 0)
 have n2 : Ob (w.heap.size + 1) ((w.alloc (.cells #[ptr c] 38)).alloc (.cells #[.slice none 0 0] 45)) (w.heap.size + 1) 0 [] := by
   have q := World.cell?_alloc_new (w.alloc (.cells #[ptr c] 38)) #[.slice none 0 0] 45 0
   have q2 := World.frozen?_alloc_at (w := w.alloc (.cells #[ptr c] 38)) #[.slice none 0 0] 45 (w.heap.size + 1) 0 hs1.symm
   have q3 := tag_new (w.alloc (.cells #[ptr c] 38)) #[.slice none 0 0] 45
   rw [hs1] at q q3
   exact ⟨⟨_, q, World.ownsRow_nil _ _ _ _⟩, q2, q3, Nat.le_refl _⟩
 have hml := h.mle
 have hmm := h.mm
 obtain ⟨p, d, e2, o2⟩ := h.c2
 have hrow := h.slabs o2
 have hcl := h.tg.lt
 rw [h.len] at e2
 generalize hW0 : (w.alloc (.cells #[ptr c] 38)).alloc (.cells #[.slice none 0 0] 45) = W0 at *
 have hR0 : TnI W0 m sz ss (w.heap.size + 1) 0 0 W0 := ⟨Below.refl _ _, by simpa [tot, pop, obA, obL, flat] using n2⟩
 have FW : ∀ W, Below (w.heap.size + 1) W0 W → Below w.heap.size w W := fun W hb => F2.trans (hb.mono (Nat.le_succ _))
 have HEA := hide (each_ok c sz m ss.length d p (fun i => bs.getD i 0) 50 #[ptr (w.heap.size + 1), ptr w.heap.size] eg34 (TnI W0 m sz ss (w.heap.size + 1)) _ ((F2.cell (p := ⟨c, 2, none⟩) hcl).trans e2) h.mm hR0
   (fun i j W hW => ⟨((FW W hW.b).cell (p := ⟨c, 1, none⟩) hcl).trans h.c1, fun t ht => by
     obtain ⟨g, rfl, hg, cg, _⟩ := hrow t ht
     exact ⟨g, rfl, ((FW W hW.b).cell (p := ⟨g, t, none⟩) hg).trans cg⟩⟩)
   (fun i j W hi hj hW => by
     obtain ⟨b, s, eb, es, hS, hok⟩ := h.slab hi
     have hbl := hS.tg.lt
     have hFW := FW W hW.b
     have ht1 := tot_le m ss i
     have ht2 := pop_le s.bm j
     have hmi : i * m ≤ 10000 * 64 := Nat.mul_le_mul (by omega) hml.2
     have hgs : ss.getD i default = s := getD_at es
     have hgb : bs.getD i 0 = b := getD_at eb
     have hWo := hW.o
     simp only [hgs, hgb] at hWo ⊢
     refine (tk1_ok (w.heap.size + 1) (w.heap.size + 1) w.heap.size c b j _ sz s _ W hWo (by have := hW.b.size; omega) ((hW.b.cell (p := ⟨w.heap.size, 0, none⟩) (by simp)).trans n1) ((hFW.cell (p := ⟨c, 1, none⟩) hcl).trans h.c1) ((hFW.cell (p := ⟨b, 0, none⟩) hbl).trans hS.c0) ((hFW.cell (p := ⟨b, 1, none⟩) hbl).trans hS.c1) ((hFW.cell (p := ⟨b, 3, none⟩) hbl).trans hS.c3) (by omega) (pow_le64 hok.2.2.1 hml.2) ⟨hok.1, hok.2.1⟩ ⟨hmm.1, hmm.2.1⟩ (by omega)).mono ?_
     rintro ev W' ⟨rfl, hb', ho'⟩
     refine ⟨rfl, hW.b.trans hb', ?_⟩
     rw [hgs, obL, pop]
     cases hbit : s.bm.testBit j with
     | true =>
       rw [hbit] at ho'
       simp only [if_true] at ho' ⊢
       have e1 : flat (obA m sz ss i ++ (obL sz s j ++ [((s.nd : Int), s.at_ * 64 + j * sz)])) = flat (obA m sz ss i ++ obL sz s j) ++ [.int .i64 s.nd, .int .i64 (s.at_ * 64 + j * sz)] := by
         rw [← List.append_assoc, flat_append]; rfl
       rw [e1]
       exact ho'
     | false =>
       rw [hbit] at ho'
       simpa using ho')
   (fun i W hi hW => ⟨hW.b, by have := hW.o; rw [tot, obA]; simpa [pop, obL] using this⟩) (by omega) hml.2)
 clear h e2 hrow hR0 n2 F2
 unfold ptr at *
 have HW0 := hide hW0
 have HB := hide FW
 clear hW0 FW
 go_enter Tryz.func14, Tryz.ntmps14
 go_upto_region 2 with (fail)
 rw [unhide HW0]
 clear HW0
 go_wp2_with fail
 refine (unhide HEA).mono ?_
 rintro ev w5 ⟨rfl, hR⟩
 obtain ⟨v, lv, lo⟩ := hR.o.c
 have hb := (unhide HB) _ hR.b
 simp only [Nat.add_zero, pop, obL, List.append_nil] at lo
 clear hR HEA HB n1
 go_wp2_with fail
 go_ret
 exact ⟨v, rfl, lo, hb⟩
end Sb
end Go.Proofs.YtfefehkapffljaaGreatDoor
namespace Go.Proofs.YtfefehkapffljaaGreatDoor
open Go.RowKit Go.Maps
namespace Sb
open Fr Bd Zn Dz
theorem obL_mem {sz : Int} {s : Sl} {o : Bl} : ∀ {j : Nat}, o ∈ obL sz s j → ∃ i, i < j ∧ s.bm.testBit i = true ∧ o = ((s.nd : Int), s.at_ * 64 + i * sz)
 | 0, h => by simp [obL] at h
 | j + 1, h => by
   rw [obL] at h
   split at h
   · rename_i hb
     rcases List.mem_append.mp h with h' | h'
     · obtain ⟨i, h1, h2⟩ := obL_mem h'
       exact ⟨i, by omega, h2⟩
     · exact ⟨j, by omega, hb, List.mem_singleton.mp h'⟩
   · obtain ⟨i, h1, h2⟩ := obL_mem h
     exact ⟨i, by omega, h2⟩
theorem obL_in {sz : Int} {s : Sl} {i : Nat} (hb : s.bm.testBit i = true) : ∀ {j : Nat}, i < j → ((s.nd : Int), s.at_ * 64 + i * sz) ∈ obL sz s j
 | 0, h => by omega
 | j + 1, h => by
   rw [obL]
   rcases Nat.lt_or_ge i j with h' | h'
   · split
     · exact List.mem_append_left _ (obL_in hb h')
     · exact obL_in hb h'
   · obtain rfl : i = j := by omega
     rw [if_pos hb]
     simp
theorem obA_mem {m : Nat} {sz : Int} {ss : List Sl} {o : Bl} : ∀ {n : Nat}, n ≤ ss.length → o ∈ obA m sz ss n → ∃ k s i, k < n ∧ ss[k]? = some s ∧ i < m ∧ s.bm.testBit i = true ∧ o = ((s.nd : Int), s.at_ * 64 + i * sz)
 | 0, _, h => by simp [obA] at h
 | n + 1, hn, h => by
   rw [obA] at h
   rcases List.mem_append.mp h with h' | h'
   · obtain ⟨k, s, i, h1, h2⟩ := obA_mem (by omega) h'
     exact ⟨k, s, i, by omega, h2⟩
   · obtain ⟨i, h1, h2, h3⟩ := obL_mem h'
     have e : ss[n]? = some (ss[n]) := List.getElem?_eq_getElem (by omega)
     rw [getD_at e] at h2 h3
     exact ⟨n, _, i, by omega, e, h1, h2, h3⟩
theorem obA_in {m : Nat} {sz : Int} {ss : List Sl} {k i : Nat} {s : Sl} (hk : ss[k]? = some s) (hi : i < m) (hb : s.bm.testBit i = true) : ∀ {n : Nat}, k < n → ((s.nd : Int), s.at_ * 64 + i * sz) ∈ obA m sz ss n
 | 0, h => by omega
 | n + 1, h => by
   rw [obA]
   rcases Nat.lt_or_ge k n with h' | h'
   · exact List.mem_append_left _ (obA_in hk hi hb h')
   · obtain rfl : k = n := by omega
     rw [getD_at hk]
     exact List.mem_append_right _ (obL_in hb hi)
theorem obA_give {m : Nat} {sz : Int} {ss : List Sl} {n : Nat} (hn : n ≤ ss.length) {o : Bl} (ho : o ∈ obA m sz ss n) : ∃ k i, GiveAt m sz ss o k i := by
 obtain ⟨k, s, i, h1, h2, h3, h4, rfl⟩ := obA_mem hn ho
 exact ⟨k, i, s, h2, h3, h4, rfl, rfl⟩
end Sb
end Go.Proofs.YtfefehkapffljaaGreatDoor
namespace Go.Proofs.YtfefehkapffljaaGreatDoor
open Go.RowKit Go.Maps
namespace Sb
open Fr Bd Zn Dz
theorem info73o : (Tryz.prog.info? 73).map (fun i => (i.zero, i.size, i.bytes)) = some (some (.agg #[.int .i64 0, .int .i64 0, .int .i64 0]), 3, 24) := by kernel_rfl
def plc (s : Sl) : List Value := [.int .i64 s.nd, .int .i64 s.at_, .int .i64 0]
def plA (ss : List Sl) : Nat → List Value
 | 0 => []
 | i + 1 => plA ss i ++ plc (ss.getD i default)
theorem news3 (w : World) (x y : Value) (z : Value) (t : TypeId) : ∀ j u, ([x, y, z] : List Value)[j]? = some u → (w.alloc (.cells #[x, y, z] t)).cell? (Addr.add ⟨w.heap.size, 0, none⟩ j) = some u := by
 intro j u hj
 match j, hj with
 | 0, hj => simp at hj; subst hj; simp [Addr.add]
 | 1, hj => simp at hj; subst hj; simp [Addr.add]
 | 2, hj => simp at hj; subst hj; simp [Addr.add]
theorem one3 (a b c : Int) : ∀ u ∈ ([.int .i64 a, .int .i64 b, .int .i64 c] : List Value), u.oneCell' = true := by
 intro u hu
 simp at hu
 rcases hu with rfl | rfl | rfl <;> rfl
structure SsI (w : World) (ss : List Sl) (i : Nat) (v : Value) (W : World) : Prop where
 b : Below w.heap.size w W
 o : W.ownsRow w.heap.size 73 3 v i (plA ss i)
set_option maxRecDepth 100000 in
set_option maxHeartbeats 8000000 in
theorem slabs_ok (N0 : Nat) (c z : Nat) (ly : Ly) (sz : Int) (m : Nat) (bs : List Nat) (ss : List Sl) (w : World) (h : DC N0 w c z ly sz m bs ss) (hn : ss.length ≤ 10000) :
   Calls Tryz.prog 19 #[ptr c] w fun ev w' => ∃ v, ev = .returned v ∧ w'.ownsRow w.heap.size 73 3 v ss.length (plA ss ss.length) ∧ Below w.heap.size w w' := by
 obtain ⟨p, d, e2, o2⟩ := h.c2
 have HR := hide (fun i (hi : i < ss.length) => h.slab hi)
 have HW := hide (fun (hi : 0 < ss.length) => h.row hi)
 have H0 : Hid (SsI w ss 0 (.slice none 0 0) w) := ⟨Below.refl _ _, World.ownsRow_nil _ _ _ _⟩
 obtain ⟨i0, hi0, hz0, hz1, hz2⟩ := info_parts info73o
 have HI := hide hi0
 have HZ := hide hz0
 have HZ1 := hide hz1
 have HZ2 := hide hz2
 clear hi0 hz0 hz1 hz2
 rw [h.len] at e2
 clear h o2
 unfold ptr at *
 go_enter Tryz.func19, Tryz.ntmps19
 go_wp2_with fail
 go_loopw [11, 3] (fun s s3 wr => ∃ i : Nat, s = .int .i64 i ∧ i ≤ ss.length ∧ Hid (SsI w ss i s3 wr)) (fun s _ _ => ss.length - (RowKit.intOf s).toNat)
 case atStart => exact ⟨0, rfl, Nat.zero_le _, H0⟩
 case round =>
   obtain ⟨i, rfl, hi, HS⟩ := hrel
   by_cases hil : i < ss.length
   · obtain ⟨b, s, eb, es, hS, hok⟩ := (unhide HR) i hil
     obtain ⟨g, d', eg, _, hg, _, hrow⟩ := (unhide HW) (by omega)
     rw [e2] at eg
     simp only [Option.some.injEq, Value.slice.injEq, true_and] at eg
     obtain ⟨rfl, rfl⟩ := eg
     have hb := (unhide HS).b
     have hown := (unhide HS).o
     have rb := (hb.cell (p := ⟨g, i, none⟩) hg).trans (hrow i b eb)
     have hbl := hS.tg.lt
     have c0 := (hb.cell (p := ⟨b, 0, none⟩) hbl).trans hS.c0
     have c1 := (hb.cell (p := ⟨b, 1, none⟩) hbl).trans hS.c1
     have c2 := (hb.cell (p := ⟨b, 2, none⟩) hbl).trans hS.c2
     have hpl : plA ss (i + 1) = plA ss i ++ [.int .i64 s.nd, .int .i64 s.at_, .int .i64 0] := by rw [plA, getD_at es]; rfl
     have hi0 : (0 : Int) ≤ i := by omega
     have hi1 : (i : Int) < ss.length := by omega
     have hbs := hb.size
     have HPL := hide hpl
     have HB := hide hb
     clear hrow hS hok eb es hpl hb
     unfold ptr at *
     go_wp2_with (at_builtin; refine wpList_append_own _ rfl (.tmp 15) (.tmp 20) 53 rfl w.heap.size 73 i0 (.agg #[.int .i64 0, .int .i64 0, .int .i64 0]) 3 24 Tryz.underlying53 (unhide HI) (unhide HZ) (unhide HZ1) (unhide HZ2) rfl (by decide) _ _ _ rfl (hown.alloc _) ⟨wr.heap.size, 0, none⟩ 1 1 [.int .i64 s.nd, .int .i64 s.at_, .int .i64 0] rfl rfl (news3 _ _ _ _ _) (one3 _ _ _) (by unfold maxLen; omega) (by omega) (by simp; omega) ?_)
     intro v4 w4 o4 q4 _
     have B4 : Below w.heap.size w w4 := ((unhide HB).alloc hbs _).grown q4 (by simp; omega) (own_row hown)
     have HS4 : Hid (SsI w ss (i + 1) v4 w4) := ⟨B4, by rw [unhide HPL]; exact o4⟩
     clear o4 q4 B4 HB HPL hown rb c0 c1 c2
     go_wp2
     go_roundw
     case rel => exact ⟨i + 1, by go_num, by omega, HS4⟩
     case measure => simp [RowKit.intOf]; omega
   · obtain rfl : i = ss.length := by omega
     go_wp2
     go_ret
     exact ⟨_, rfl, (unhide HS).o, (unhide HS).b⟩
end Sb
end Go.Proofs.YtfefehkapffljaaGreatDoor
namespace Go.Proofs.YtfefehkapffljaaGreatDoor
open Go.RowKit Go.Maps
namespace Sb
open Fr Bd Zn Dz
end Sb
end Go.Proofs.YtfefehkapffljaaGreatDoor
namespace Go.Proofs.YtfefehkapffljaaGreatDoor
open Go.RowKit Go.Maps
namespace Sb
open Fr Bd Zn Dz
end Sb
end Go.Proofs.YtfefehkapffljaaGreatDoor
namespace Go.Proofs.YtfefehkapffljaaGreatDoor
open Go.RowKit Go.ChangeShapes
namespace Sb
theorem cells3 : Tryz.prog.cellsOf 3 = 1 := by kernel_rfl
theorem cellsOf9 : Tryz.prog.cellsOf 9 = 1 := by kernel_rfl
theorem cells46 : Tryz.prog.cellsOf 22 = 1 := by kernel_rfl
theorem cells47 : Tryz.prog.cellsOf 23 = 1 := by kernel_rfl
theorem cells49 : Tryz.prog.cellsOf 25 = 3 := by kernel_rfl
theorem cells51 : Tryz.prog.cellsOf 27 = 5 := by kernel_rfl
theorem cells42 : Tryz.prog.cellsOf 42 = 2 := by kernel_rfl
theorem cells4 : Tryz.prog.cellsOf 4 = 1 := by kernel_rfl
open Fr Bd Zn Dz
theorem plain_addr {w : World} {a : Addr} {v : Value} (h0 : w.cell? a = some v) : ∃ blk off, a = ⟨blk, off, none⟩ := by
 obtain ⟨blk, off, spot⟩ := a
 cases spot with
 | none => exact ⟨blk, off, rfl⟩
 | some s =>
   exfalso
   simp only [World.cell?] at h0
   split at h0 <;> simp_all
structure Rw where
 pr : Option Addr
 l : Nat
 c : Nat
 z : Nat → Int
instance : Inhabited Rw := ⟨⟨none, 0, 0, fun _ => 0⟩⟩
section
variable {H : Type} {enc : TypeId × Value → H} {w : World} {base : Nat} {spare : Nat → Bool} {held : Bool}
theorem open_row {fuel : Nat} {v : Value} {x : DataW H × List MemPlace} (h : DataW.trod enc Tryz.prog w base spare held fuel 22 [v] = some x) :
   ∃ r : Rw, v = .slice r.pr r.l r.c ∧ Nums w r.pr r.l r.z ∧ (r.pr = none → r.c = 0) := by
 rcases Go.Deep.open_slice1 Tryz.underlying22 cells3 h with ⟨h0, _⟩ | ⟨a, len, cap, m, n, V, D, Pl, hv, _, _, _, hmm, _, hx⟩
 · obtain rfl : v = .slice none 0 0 := by simpa using h0
   exact ⟨⟨none, 0, 0, fun _ => 0⟩, rfl, fun i hi => by simp at hi, fun _ => rfl⟩
 · obtain rfl : v = .slice (some a) len cap := by simpa using hv
   have hlm : len ≤ m := by rw [hmm]; split <;> omega
   obtain ⟨z, hz⟩ := Go.Deep.choose_lt (α := Int) (p := fun i q => w.cell? (a.add i) = some (.int .i64 q)) (n := len) (fun i hi => by
     obtain ⟨h1, h2⟩ := hx i (by omega)
     obtain ⟨q, hq, _⟩ := DataW.trod_int Tryz.underlying3 h2
     simp at hq
     exact ⟨q, by rw [h1, hq]⟩)
   refine ⟨⟨some a, len, cap, z⟩, rfl, fun i (hi : i < len) => ?_, fun h => by cases h⟩
   have h0 := hz 0 (by omega)
   obtain ⟨blk, off, rfl⟩ := plain_addr (by simpa [Addr.add] using h0)
   have hi' := hz i hi
   rw [add_at] at hi'
   exact ⟨blk, off, rfl, World.block_lt_of_cell? w _ hi', hi'⟩
theorem open_rows {fuel : Nat} {v : Value} {x : DataW H × List MemPlace} (h : DataW.trod enc Tryz.prog w base spare held fuel 23 [v] = some x) :
   ∃ (q : Option Addr) (m qc : Nat) (M : Nat → Nat) (D : Nat → Nat → Int), v = .slice q m qc ∧ Rows2 w q m M D := by
 rcases Go.Deep.open_slice1 Tryz.underlying23 cells46 h with ⟨h0, _⟩ | ⟨a, len, cap, m, n, V, D, Pl, hv, _, _, _, hmm, _, hx⟩
 · obtain rfl : v = .slice none 0 0 := by simpa using h0
   exact ⟨none, 0, 0, fun _ => 0, fun _ _ => 0, rfl, fun i hi => by omega⟩
 · obtain rfl : v = .slice (some a) len cap := by simpa using hv
   have hlm : len ≤ m := by rw [hmm]; split <;> omega
   obtain ⟨r, hr⟩ := Go.Deep.choose_lt (α := Rw) (p := fun i r => w.cell? (a.add i) = some (.slice r.pr r.l r.c) ∧ Nums w r.pr r.l r.z ∧ (r.pr = none → r.c = 0)) (n := len) (fun i hi => by
     obtain ⟨h1, h2⟩ := hx i (by omega)
     obtain ⟨r, hr, hn, h0⟩ := open_row h2
     exact ⟨r, by rw [h1, hr], hn, h0⟩)
   refine ⟨some a, len, cap, fun i => (r i).l, fun i => (r i).z, rfl, fun i hi => ?_⟩
   have h0 := (hr 0 (by omega)).1
   obtain ⟨blk, off, rfl⟩ := plain_addr (by simpa [Addr.add] using h0)
   obtain ⟨h1, h2, h3⟩ := hr i hi
   rw [add_at] at h1
   exact ⟨blk, off, (r i).pr, (r i).c, rfl, World.block_lt_of_cell? w _ h1, h1, h2, h3⟩
structure SA where
 s : ByteArray
 x : Int
 n : Int
 u : Bool
 ox : Int
 oa : Int
instance : Inhabited SA := ⟨⟨ByteArray.empty, 0, 0, false, 0, 0⟩⟩
end
end Sb
end Go.Proofs.YtfefehkapffljaaGreatDoor
