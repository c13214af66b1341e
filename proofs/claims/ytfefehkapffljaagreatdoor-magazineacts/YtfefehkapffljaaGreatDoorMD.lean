/- M6 · M7 · M8 · M9 · M10. -/
import Derived.Test.YtfefehkapffljaaGreatDoorMB
import Derived.Deep.RegionHeld3
import Derived.Test.YtfefehkapffljaaGreatDoorKG
import Derived.Test.YtfefehkapffljaaGreatDoorKK
import Derived.Test.YtfefehkapffljaaGreatDoorKM
namespace Go.Proofs.YtfefehkapffljaaGreatDoor
open Go.RowKit Go.Maps
namespace Mg
open Fr Bd Zn Dz Sb
set_option maxHeartbeats 1000000 in
theorem clear_no (c mb q : Nat) (f : Int → Int → Option Nat) (oN oA : Int) (w : World) (c3 : w.cell? ⟨c, 3, none⟩ = some (.map (some mb))) (hm : Ml w mb q f) (hw : W2 oN oA) (hf : f oN oA = none) :
   Calls Tryz.prog 54 #[.pointer (some ⟨c, 0, none⟩), .agg #[.int .i64 oN, .int .i64 oA]] w fun ev w' => ev = .returned (.tuple #[]) ∧ Below w.heap.size w w' := by
 have F1 := ballo (Below.refl w.heap.size w) (.cells #[.int .i64 oN, .int .i64 oA] 42)
 have q' := World.cell?_alloc_new w #[.int .i64 oN, .int .i64 oA] 42
 have q0 := q' 0
 have q1 := q' 1
 have hl := World.block_lt_of_cell? w _ c3
 have d3 := (F1.cell (p := ⟨c, 3, none⟩) hl).trans c3
 have hr : ∀ n, (Instr.lookup 111 (.map (some mb)) (.agg #[.int .i64 oN, .int .i64 oA]) false).run Tryz.prog ((w.alloc (.cells #[.int .i64 oN, .int .i64 oA] 42)).drewN n) = .ok (.pointer none) ((w.alloc (.cells #[.int .i64 oN, .int .i64 oA] 42)).drewN n) := fun n => by
   have := (hm.b F1).lookN hw n
   rw [hf] at this
   exact this
 simp only [List.getElem?_toArray, List.getElem?_cons_zero, List.getElem?_cons_succ] at q0 q1
 clear q' c3 hm hf
 go_enter Tryz.func54, Tryz.ntmps54
 go_upto_region 1 with (fail)
 generalize w.alloc (.cells #[.int .i64 oN, .int .i64 oA] 42) = W at *
 go_quiet (fail)
 go_wp2
 refine bodyPost_ret (results_none rfl _ _ _) rfl ?_
 exact ⟨rfl, bdN F1 _⟩
theorem filter_top {xs : List Bl} {o : Bl} (h : (xs ++ [o]).Nodup) : (xs ++ [o]).filter (oth o.1 o.2) = xs := by
 have hno : o ∉ xs := by
   intro hm
   have := List.nodup_append.1 h
   exact this.2.2 o hm o (by simp) rfl
 rw [List.filter_append]
 have e1 : xs.filter (oth o.1 o.2) = xs := List.filter_eq_self.2 (fun x hx => by
   unfold oth
   have : ¬ (x.1 = o.1 ∧ x.2 = o.2) := fun ⟨h1, h2⟩ => hno (by rw [show o = x from Prod.ext h1.symm h2.symm]; exact hx)
   simp [this])
 have e2 : [o].filter (oth o.1 o.2) = [] := by simp [oth]
 rw [e1, e2, List.append_nil]
structure Kp (S : Nat → Prop) (w w' : World) : Prop where
 os : w'.os = w.os
 tape : w'.tape = w.tape
 output : w'.output = w.output
 size : w.heap.size ≤ w'.heap.size
 blk : ∀ k, k < w.heap.size → ¬ S k → w'.heap[k]? = w.heap[k]?
section
variable {S T : Nat → Prop} {w w1 w' : World}
theorem Kp.below (h : Below w.heap.size w w') : Kp S w w' := ⟨h.os, h.tape, h.output, h.size, fun k hk _ => h.block k hk⟩
theorem Kp.trans (h : Kp S w w1) (k : Kp S w1 w') : Kp S w w' := ⟨k.os.trans h.os, k.tape.trans h.tape, k.output.trans h.output, Nat.le_trans h.size k.size, fun j hj hn => (k.blk j (Nat.lt_of_lt_of_le hj h.size) hn).trans (h.blk j hj hn)⟩
theorem Kp.kept {A B : Nat} (h : Kept A B w w') (hA : S A) (hB : S B) : Kp S w w' := ⟨h.os, h.tape, h.output, h.size, fun k hk hn => h.block k hk (fun e => hn (e ▸ hA)) (fun e => hn (e ▸ hB))⟩
theorem Kp.mono (h : Kp S w w') (hs : ∀ k, k < w.heap.size → S k → T k) : Kp T w w' := ⟨h.os, h.tape, h.output, h.size, fun k hk hn => h.blk k hk (fun hS => hn (hs k hk hS))⟩
theorem Kp.cell (h : Kp S w w') {p : Addr} (hp : p.block < w.heap.size) (hn : ¬ S p.block) : w'.cell? p = w.cell? p := World.cell?_of_block (w := w) (h.blk p.block hp hn)
theorem Kp.set (w : World) (b o : Nat) (v : Value) (hb : S b) : Kp S w (w.setCell ⟨b, o, none⟩ v) := Kp.kept (kept_set w o v) hb hb
end
theorem row_own {N0 : Nat} {w w' : World} {g n cap n' : Nat} {xs ys : List Value} (h : w.ownsRow N0 42 2 (.slice (some ⟨g, 0, none⟩) n cap) n xs) (cur' : Array Value) (hb : w'.heap[g]? = some (.cells cur' 42 (0, 0))) (hs : cur'.size = cap * 2) (hn : n' ≤ cap) (hl : ys.length = n' * 2) (hy : cur'.toList.take (n' * 2) = ys) : w'.ownsRow N0 42 2 (.slice (some ⟨g, 0, none⟩) n' cap) n' ys := by
 rcases h.2 with ⟨e, _⟩ | ⟨g', cap', cur, e, hg, hh, h1, h2, h3, h4⟩
 · cases e
 · simp only [Value.slice.injEq, Option.some.injEq, Addr.mk.injEq, and_true, true_and] at e
   obtain ⟨rfl, rfl⟩ := e
   exact ⟨hl, Or.inr ⟨g, cap, cur', rfl, hg, hb, hn, h2, hs, hy⟩⟩
end Mg
end Go.Proofs.YtfefehkapffljaaGreatDoor
namespace Go.Proofs.YtfefehkapffljaaGreatDoor
open Go.RowKit Go.Maps
namespace Mg
open Fr Bd Zn Dz Sb
theorem take_row (xs : List Bl) (cur : Array Value) (_hl : xs.length * 2 ≤ cur.size) (h : ∀ i, i < xs.length → cur[i * 2]? = some (.int .i64 (xs.getD i (0, 0)).1) ∧ cur[i * 2 + 1]? = some (.int .i64 (xs.getD i (0, 0)).2)) : cur.toList.take (xs.length * 2) = flat xs := by
 apply List.ext_getElem?
 intro j
 rw [List.getElem?_take]
 by_cases hj : j < xs.length * 2
 · rw [if_pos hj]
   have h1 := h (j / 2) (by omega)
   have h2 := flat_get xs (j / 2) (by omega)
   have e3 : xs.getD (j / 2) (0, 0) = xs[j / 2] := getD_lt (by omega)
   rw [e3] at h1
   rcases (by omega : j = j / 2 * 2 ∨ j = j / 2 * 2 + 1) with e | e
   · rw [e, Array.getElem?_toList, h1.1, Nat.mul_comm (j / 2) 2, h2.1]
   · rw [e, Array.getElem?_toList, h1.2, Nat.mul_comm (j / 2) 2, h2.2]
 · rw [if_neg hj]
   exact (List.getElem?_eq_none (by rw [flat_length]; omega)).symm
theorem row_back {N0 : Nat} {w w' : World} {g n cap : Nat} {xs ys : List Bl} (h : w.ownsRow N0 42 2 (.slice (some ⟨g, 0, none⟩) n cap) n (flat xs)) (hf : Fm g w w') (hr : Row w' g ys) (hn : ys.length ≤ n) : w'.ownsRow N0 42 2 (.slice (some ⟨g, 0, none⟩) ys.length cap) ys.length (flat ys) := by
 rcases id h.2 with ⟨e, _⟩ | ⟨g', cap', cur, e, hg, hh, h1, h2, h3, h4⟩
 · cases e
 · simp only [Value.slice.injEq, Option.some.injEq, Addr.mk.injEq, and_true, true_and] at e
   obtain ⟨rfl, rfl⟩ := e
   obtain ⟨cur', e', s'⟩ := hf cur 42 hh
   have hc : ∀ j, w'.cell? ⟨g, j, none⟩ = cur'[j]? := fun j => cell_of_row w' g j cur' 42 (0, 0) e'
   refine row_own h cur' e' (by rw [s', h3]) (by omega) (flat_length ys) (take_row ys cur' (by rw [s', h3]; omega) (fun i hi => ?_))
   have := hr.c i hi
   rw [hc, hc] at this
   exact this
theorem orow_of {w : World} {B g cap : Nat} {L : List Bl} (h : w.ownsRow B 42 2 (.slice (some ⟨g, 0, none⟩) L.length cap) L.length (flat L)) : L.length ≤ cap ∧ Row w g L := by
 rcases id h.2 with ⟨e, _⟩ | ⟨g', cap', cur, e, hb, hg, hle, hcap, hcs, hx⟩
 · cases e
 · simp only [Value.slice.injEq, Option.some.injEq, Addr.mk.injEq, and_true, true_and] at e
   obtain ⟨rfl, rfl⟩ := e
   refine ⟨hle, fun i hi => ?_, fun o _ => by simp [World.frozen?, hg], (Array.getElem?_eq_some_iff.1 hg).1⟩
   have hf := flat_get L i hi
   rw [List.getD_eq_getElem?_getD, List.getElem?_eq_getElem hi, Option.getD_some]
   rw [Nat.mul_comm i 2]
   exact ⟨(h.cellAt (2 * i) (by omega)).trans hf.1, (h.cellAt (2 * i + 1) (by omega)).trans hf.2⟩
theorem Ml.ne {w : World} {mb q : Nat} {f : Int → Int → Option Nat} (h : Ml w mb q f) {b t : Nat} (ht : Tag w b t) : b ≠ mb := fun e => by
 obtain ⟨o, h1, h2⟩ := h.kindless
 obtain ⟨cur, fz, h3⟩ := ht
 rw [← e, h3] at h1
 rw [← Option.some.inj h1] at h2
 cases h2
theorem TRy.ne {N0 : Nat} {w : World} {c t r mb q : Nat} {xs : List Bl} {f : Int → Int → Option Nat} (h : TRy N0 w c t r xs) (hm : Ml w mb q f) : t ≠ mb ∧ r ≠ mb := by
 refine ⟨hm.ne h.tg, ?_⟩
 rcases h.row with e | h'
 · rw [e]; exact hm.ne h.tg
 · exact hm.ne h'.1
theorem TRy.form {N0 : Nat} {w : World} {c t r : Nat} {xs : List Bl} (h : TRy N0 w c t r xs) (hn : xs ≠ []) : ∃ cp, w.cell? ⟨t, 1, none⟩ = some (.slice (some ⟨r, 0, none⟩) xs.length cp) ∧ w.ownsRow N0 42 2 (.slice (some ⟨r, 0, none⟩) xs.length cp) xs.length (flat xs) ∧ r ≠ t := by
 obtain ⟨v, e, o, hv⟩ := h.c1
 have hl : 0 < xs.length := List.length_pos_iff.2 hn
 obtain ⟨g, cap, hv', _⟩ := o.form hl
 rcases hv with ⟨rfl, _⟩ | ⟨cp, rfl⟩
 · cases hv'
 · refine ⟨cp, e, o, fun e2 => ?_⟩
   have : Tag w r 42 := by
     rcases o.2 with ⟨e3, _⟩ | ⟨g', cap', cur, e3, _, hh, _⟩
     · cases e3
     · simp only [Value.slice.injEq, Option.some.injEq, Addr.mk.injEq] at e3
       obtain ⟨⟨rfl, _⟩, _⟩ := e3
       exact ⟨cur, _, hh⟩
   exact this.ne h.tg (by decide) e2
theorem Ml.set {w : World} {mb q : Nat} {f : Int → Int → Option Nat} (h : Ml w mb q f) {b : Nat} (hb : b ≠ mb) (o : Nat) (v : Value) : Ml (w.setCell ⟨b, o, none⟩ v) mb q f := h.blk (Below.heap_setCell _ _ _ _ (fun e => hb e.symm))
theorem own_keepF {w w' : World} {b e size n : Nat} {v : Value} {xs : List Value} (h : w.ownsRow b e size v n xs) (hb : ∀ g, v.ownBlock = some g → w'.heap[g]? = w.heap[g]?) : w'.ownsRow b e size v n xs := by
 refine ⟨h.1, ?_⟩
 rcases h.2 with h2 | ⟨g, cap, cur, rfl, h2, h3, h4⟩
 · exact Or.inl h2
 · exact Or.inr ⟨g, cap, cur, rfl, h2, (hb g rfl).trans h3, h4⟩
set_option maxRecDepth 100000 in
set_option maxHeartbeats 4000000 in
theorem clear_top (N0 c t r mb q : Nat) (f : Int → Int → Option Nat) (xs : List Bl) (o : Bl) (w : World) (c3 : w.cell? ⟨c, 3, none⟩ = some (.map (some mb))) (hm : Ml w mb q f) (hT : TRy N0 w c t r (xs ++ [o])) (hw : W2 o.1 o.2) (hf : f o.1 o.2 = some t) (hnd : (xs ++ [o]).Nodup) (hlen : (xs ++ [o]).length ≤ 256) (_hcm : c ≠ mb) :
   Calls Tryz.prog 54 #[.pointer (some ⟨c, 0, none⟩), .agg #[.int .i64 o.1, .int .i64 o.2]] w fun ev w' => ev = .returned (.tuple #[]) ∧ TRy N0 w' c t r xs ∧ Ml w' mb q (upF f o.1 o.2 none) ∧ Kp (fun k => k = t ∨ k = r ∨ k = mb) w w' := by
 obtain ⟨oN, oA⟩ := o
 simp only at *
 have F1 := ballo (Below.refl w.heap.size w) (.cells #[.int .i64 oN, .int .i64 oA] 42)
 have q' := World.cell?_alloc_new w #[.int .i64 oN, .int .i64 oA] 42
 have q0 := q' 0
 have q1 := q' 1
 have hcl := World.block_lt_of_cell? w _ c3
 have d3 := (F1.cell (p := ⟨c, 3, none⟩) hcl).trans c3
 have hbl : w.heap.size < (w.alloc (.cells #[.int .i64 oN, .int .i64 oA] 42)).heap.size := by simp
 have hr : ∀ n, (Instr.lookup 111 (.map (some mb)) (.agg #[.int .i64 oN, .int .i64 oA]) false).run Tryz.prog ((w.alloc (.cells #[.int .i64 oN, .int .i64 oA] 42)).drewN n) = .ok (.pointer (some ⟨t, 0, none⟩)) ((w.alloc (.cells #[.int .i64 oN, .int .i64 oA] 42)).drewN n) := fun n => by
   have := (hm.b F1).lookN hw n
   rw [hf] at this
   exact this
 simp only [List.getElem?_toArray, List.getElem?_cons_zero, List.getElem?_cons_succ] at q0 q1
 have HF1 := hide F1
 have HM1 := hide (hm.b F1)
 have HT1 := hide (hT.b F1)
 have HCL := hide hcl
 have hrl := hT.rlt
 have hne := hT.ne hm
 clear q' c3 hm hf hT F1
 go_enter Tryz.func54, Tryz.ntmps54
 go_upto_region 1 with (fail)
 generalize w.alloc (.cells #[.int .i64 oN, .int .i64 oA] 42) = W at *
 go_quiet (fail)
 have B2 : Below W.heap.size W (W.drewN nq) := bdN (Below.refl _ _) _
 have HM2 := hide ((unhide HM1).b B2)
 have HT2 := hide ((unhide HT1).b B2)
 have HF2 := hide (btr (unhide HF1) B2)
 have e3 := (B2.cell (p := ⟨c, 3, none⟩) (by have := (unhide HF1).size; simp only; have := unhide HCL; simp only at this; omega)).trans d3
 have e0 := (B2.cell (p := ⟨w.heap.size, 0, none⟩) hbl).trans q0
 have e1 := (B2.cell (p := ⟨w.heap.size, 1, none⟩) hbl).trans q1
 have hb2 : w.heap.size < (W.drewN nq).heap.size := Nat.lt_of_lt_of_le hbl B2.size
 clear hr q0 q1 d3 HM1 HT1 HF1 B2 hbl
 generalize W.drewN nq = W2' at *
 obtain ⟨w3, hd, M3, K3⟩ := ((unhide HM2).b (drw W2')).drop hw 0
 have hdel : ∀ ty, (Builtin.delete_ #[111, 42] ty #[.map (some mb), .agg #[.int .i64 oN, .int .i64 oA]]).run Tryz.prog W2'.drew = .ok (.tuple #[]) w3 := fun _ => hd
 have T2 := unhide HT2
 obtain ⟨cp, s1, so, hrt⟩ := T2.form (by simp)
 have hcb : w.heap.size ≠ mb := fun e => by
   have := (unhide HM2).ne (b := w.heap.size) (t := 42)
   have hl := (unhide HM2).lt
   exact absurd e (by
     intro e
     obtain ⟨o, h1, h2⟩ := (unhide HM2).kindless
     rw [← e] at h1
     unfold World.cell? at e0
     simp only [h1] at e0
     cases o <;> simp_all [kind])
 have x1 := (K3.cell (p := ⟨t, 1, none⟩) T2.tg.lt hne.1 hne.1).trans s1
 have xf := (World.frozen?_of_block (w := W2') (a := ⟨t, 1, none⟩) (K3.block t T2.tg.lt hne.1 hne.1)).trans (T2.fz 1)
 have y0 := (K3.cell (p := ⟨w.heap.size, 0, none⟩) hb2 hcb hcb).trans e0
 have y1 := (K3.cell (p := ⟨w.heap.size, 1, none⟩) hb2 hcb hcb).trans e1
 have so3 := own_keepF so (w' := w3) (fun g hg => by
   simp only [Value.ownBlock, Option.some.injEq] at hg
   subst hg
   exact K3.block r (so.lt r rfl).2 hne.2 hne.2)
 obtain ⟨hle, R3⟩ := orow_of so3
 have hs3 := K3.size
 have hcb3 : w.heap.size < w3.heap.size := Nat.lt_of_lt_of_le hb2 hs3
 have HOD := hide (odelete_ok (xs ++ [(oN, oA)]) r cp w.heap.size oN oA w3 R3 hlen hle y0 y1 hcb3 (by omega))
 have HK3 : Hid (Kp (fun k => k = t ∨ k = r ∨ k = mb) w w3) := ((Kp.below (btr (unhide HF2) (drw W2'))).trans (Kp.kept K3 (Or.inr (Or.inr rfl)) (Or.inr (Or.inr rfl))))
 have HT3 := hide (T2.same (w' := w3) (K3.block t T2.tg.lt hne.1 hne.1) (K3.block r T2.rlt hne.2 hne.2))
 have HM3 := hide M3
 have HSO := hide so3
 clear R3 so so3 s1 hd y0 y1 T2 HM2 HT2 HF2 M3 hle
 rw [filter_top hnd] at HOD
 have HLE := hide (show xs.length ≤ (xs ++ [(oN, oA)]).length by simp)
 generalize xs ++ [(oN, oA)] = L at *
 go_wp2_with fail
 go_region
 clear e0 e1 e3 hdel
 go_wp2_with fail
 refine (unhide HOD).mono ?_
 rintro ev w4 ⟨k4, M, rfl, rfl, R4⟩
 have T3 := unhide HT3
 have x14 := (k4.k.cell (p := ⟨t, 1, none⟩) T3.tg.lt (Ne.symm hrt) (Ne.symm hrt)).trans (x1)
 have xf4 := (World.frozen?_of_block (w := w3) (a := ⟨t, 1, none⟩) (k4.k.block t T3.tg.lt (Ne.symm hrt) (Ne.symm hrt))).trans xf
 have HR4 := hide R4
 have HK4 := hide k4
 clear R4 k4 HOD
 go_wp2
 go_end0
 have T3 := unhide HT3
 have hb4 := (unhide HK4).k.block t T3.tg.lt (Ne.symm hrt) (Ne.symm hrt)
 have so4 := row_back (unhide HSO) (unhide HK4).f (unhide HR4) (unhide HLE)
 have T4 : Tag w4 t 194 := T3.tg.blk hb4
 have h0 : w4.cell? ⟨t, 0, none⟩ = some (ptr c) := (World.cell?_of_block (w := w3) (a := ⟨t, 0, none⟩) hb4).trans T3.c0
 refine ⟨rfl, ⟨(cso (by simp)).trans h0, ⟨_, css x14, own_keepF so4 (fun g hg => ?_), Or.inr ⟨cp, rfl⟩⟩, T4.set _ _, T3.ge, fun o => by rw [World.frozen?_setCell]; exact (World.frozen?_of_block (w := w3) (a := ⟨t, o, none⟩) hb4).trans (T3.fz o)⟩, ?_, ?_⟩
 · simp only [Value.ownBlock, Option.some.injEq] at hg
   subst hg
   exact Below.heap_setCell _ _ _ _ hrt
 · exact ((unhide HM3).blk ((unhide HK4).k.block mb (unhide HM3).lt (Ne.symm hne.2) (Ne.symm hne.2))).set hne.1 _ _
 · exact ((unhide HK3).trans (Kp.kept (unhide HK4).k (Or.inr (Or.inl rfl)) (Or.inr (Or.inl rfl)))).trans (Kp.set _ t 1 _ (Or.inl rfl))
end Mg
end Go.Proofs.YtfefehkapffljaaGreatDoor
namespace Go.Proofs.YtfefehkapffljaaGreatDoor
open Go.RowKit Go.Maps
namespace Mg
open Fr Bd Zn Dz Sb
theorem lift_none {N0 c t r : Nat} {w : World} (hT : TRy N0 w c t r []) :
   Calls Tryz.prog 101 #[.pointer (some ⟨t, 0, none⟩)] w fun ev w' => ev = .returned (.tuple #[.agg #[.int .i64 0, .int .i64 0], .bool false]) ∧ Below w.heap.size w w' := by
 have F1 := ballo (Below.refl w.heap.size w) (.cells #[.int .i64 0, .int .i64 0] 42)
 have R1 := rx_new w
 obtain ⟨v, e, o, _⟩ := (hT.b F1).c1
 obtain ⟨p, d, rfl⟩ := own_sl o
 clear hT o
 simp only [List.length_nil] at e
 obtain ⟨r0, r1, rfz, _⟩ := R1
 have f0 := rfz 0
 have f1 := rfz 1
 have hF := hide F1
 clear F1 rfz
 go_enter Tryz.func101, Tryz.ntmps101
 go_upto_region 1 with (fail)
 generalize hW : w.alloc (.cells #[.int .i64 0, .int .i64 0] 42) = W at *
 obtain ⟨t0, t1⟩ := set2_at r0 r1 (.int .i64 0) (.int .i64 0)
 go_wp2
 refine bodyPost_ret (v := .tuple #[.agg #[.int .i64 0, .int .i64 0], .bool false]) (by simp [results, Tryz.results101, go_sem, t0, t1]; try rfl) rfl ?_
 exact ⟨rfl, below_set2 (unhide hF) (Nat.le_refl _) _ _⟩
set_option maxRecDepth 100000 in
set_option maxHeartbeats 4000000 in
theorem lift_top (N0 c t r mb q : Nat) (f : Int → Int → Option Nat) (xs : List Bl) (o : Bl) (w : World) (c3 : w.cell? ⟨c, 3, none⟩ = some (.map (some mb))) (hm : Ml w mb q f) (hT : TRy N0 w c t r (xs ++ [o])) (hw : W2 o.1 o.2) (hf : f o.1 o.2 = some t) (hnd : (xs ++ [o]).Nodup) (hlen : (xs ++ [o]).length ≤ 256) (hcm : c ≠ mb) :
   Calls Tryz.prog 101 #[.pointer (some ⟨t, 0, none⟩)] w fun ev w' => ev = .returned (.tuple #[.agg #[.int .i64 o.1, .int .i64 o.2], .bool true]) ∧ TRy N0 w' c t r xs ∧ Ml w' mb q (upF f o.1 o.2 none) ∧ Kp (fun k => k = t ∨ k = r ∨ k = mb) w w' := by
 have F1 := ballo (Below.refl w.heap.size w) (.cells #[.int .i64 0, .int .i64 0] 42)
 have R1 := rx_new w
 have hcl := World.block_lt_of_cell? w _ c3
 simp only at hcl
 have T1 := hT.b F1
 obtain ⟨cp, s1, so, hrt⟩ := T1.form (by simp)
 have k0 := T1.c0
 have hl : (xs ++ [o]).length = xs.length + 1 := by simp
 have hfl := flat_get (xs ++ [o]) xs.length (by omega)
 have ho : (xs ++ [o])[xs.length]'(by omega) = o := by simp
 rw [ho] at hfl
 have z0 := (so.cellAt (2 * xs.length) (by omega)).trans hfl.1
 have z1 := (so.cellAt (2 * xs.length + 1) (by omega)).trans hfl.2
 rw [Nat.mul_comm 2] at z0 z1
 rw [hl] at s1
 have hk0 : (0 : Int) ≤ (xs.length : Int) := by omega
 have hk1 : (xs.length : Int) < ((xs.length + 1 : Nat) : Int) := by omega
 have hk2 : ((xs.length + 1 : Nat) : Int) - 1 = (xs.length : Int) := by omega
 have hk3 : (((xs.length + 1 : Nat) : Int) == 0) = false := by simp; omega
 have hlN : xs.length ≤ 256 := by omega
 have HCL : Hid (∀ w', Below (w.alloc (.cells #[.int .i64 0, .int .i64 0] 42)).heap.size (w.alloc (.cells #[.int .i64 0, .int .i64 0] 42)) w' → Calls Tryz.prog 54 #[.pointer (some ⟨c, 0, none⟩), .agg #[.int .i64 o.1, .int .i64 o.2]] w' fun ev w2 => ev = .returned (.tuple #[]) ∧ TRy N0 w2 c t r xs ∧ Ml w2 mb q (upF f o.1 o.2 none) ∧ Kp (fun k => k = t ∨ k = r ∨ k = mb) w' w2) := fun w' hb => clear_top N0 c t r mb q f xs o w' (((btr F1 hb).cell (p := ⟨c, 3, none⟩) hcl).trans c3) (hm.b (btr F1 hb)) (T1.b hb) hw hf hnd hlen hcm
 have HT := hide T1
 have HF := hide F1
 have hrl := T1.rlt
 have htl := T1.tg.lt
 have hrw := hT.rlt
 have htw := hT.tg.lt
 have hmw := hm.lt
 have HR := hide R1
 obtain ⟨oN, oA⟩ := o
 simp only at *
 clear T1 F1 hT hm c3 so hl hfl ho hnd hlen hw hf R1
 generalize xs.length = k at *
 unfold ptr at k0
 go_enter Tryz.func101, Tryz.ntmps101
 go_upto_region 1 with (fail)
 generalize hW : w.alloc (.cells #[.int .i64 0, .int .i64 0] 42) = W at *
 go_wp2_with fail
 go_region
 have B1 : Below W.heap.size W (W.alloc (.cells #[.int .i64 oN, .int .i64 oA] 42)).drew := (ballo (Below.refl _ _) _).drew
 have q' := World.cell?_alloc_new W #[.int .i64 oN, .int .i64 oA] 42
 have q0 : (W.alloc (.cells #[.int .i64 oN, .int .i64 oA] 42)).drew.cell? ⟨W.heap.size, 0, none⟩ = some (.int .i64 oN) := q' 0
 have q1 : (W.alloc (.cells #[.int .i64 oN, .int .i64 oA] 42)).drew.cell? ⟨W.heap.size, 1, none⟩ = some (.int .i64 oA) := q' 1
 have hbx : W.heap.size < (W.alloc (.cells #[.int .i64 oN, .int .i64 oA] 42)).drew.heap.size := by show _ < (W.alloc _).heap.size; rw [World.size_alloc]; omega
 have y0 := (B1.cell (p := ⟨t, 0, none⟩) htl).trans k0
 have HR1 := hide ((unhide HR).b B1)
 have hwW : w.heap.size < W.heap.size := (unhide HR).tg.lt
 have HC1 := hide ((unhide HCL) (W.alloc (.cells #[.int .i64 oN, .int .i64 oA] 42)).drew.drew B1.drew)
 have HF1 := hide (btr (unhide HF) B1)
 clear HCL HR HT k0 s1 z0 z1 q' HF hW
 have hsW : W.heap.size ≠ t ∧ W.heap.size ≠ r ∧ W.heap.size ≠ mb := ⟨by omega, by omega, by omega⟩
 have hsw : w.heap.size ≠ t ∧ w.heap.size ≠ r ∧ w.heap.size ≠ mb := ⟨by omega, by omega, by omega⟩
 generalize (W.alloc (.cells #[.int .i64 oN, .int .i64 oA] 42)).drew = W1 at *
 generalize W.heap.size = b4 at *
 go_wp2_with fail
 have HS1 := hide (show W1.drew.cell? ⟨t, 0, none⟩ = some (.pointer (some ⟨c, 0, none⟩)) ∧ W1.drew.cell? ⟨b4, 0, none⟩ = some (.int .i64 oN) ∧ W1.drew.cell? ⟨b4, 1, none⟩ = some (.int .i64 oA) from ⟨y0, q0, q1⟩)
 go_region_held3 (fun w' => w'.cell? ⟨t, 0, none⟩ = some (.pointer (some ⟨c, 0, none⟩)) ∧ w'.cell? ⟨b4, 0, none⟩ = some (.int .i64 oN) ∧ w'.cell? ⟨b4, 1, none⟩ = some (.int .i64 oA)) ((first | exact unhide HS1 | (go_keep; done) | assumption)) ((first
   | (go_at_call 54; refine (unhide HC1).mono ?_; rintro ev w5 ⟨rfl, T5, M5, K5⟩; have HT5 := hide T5; have HM5 := hide M5; have HK5 := hide K5; have s5 : w5.cell? ⟨t, 0, none⟩ = some (.pointer (some ⟨c, 0, none⟩)) ∧ w5.cell? ⟨b4, 0, none⟩ = some (.int .i64 oN) ∧ w5.cell? ⟨b4, 1, none⟩ = some (.int .i64 oA) := ⟨T5.c0, (K5.cell (p := ⟨b4, 0, none⟩) hbx (by simp only; rintro (h | h | h); exact hsW.1 h; exact hsW.2.1 h; exact hsW.2.2 h)).trans q0, (K5.cell (p := ⟨b4, 1, none⟩) hbx (by simp only; rintro (h | h | h); exact hsW.1 h; exact hsW.2.1 h; exact hsW.2.2 h)).trans q1⟩; clear T5 M5 K5)))
 obtain ⟨s50, s51, s52⟩ := s5
 have hR5 := (unhide HR1).b (drw W1)
 have R5 := hR5.blk ((unhide HK5).blk w.heap.size hR5.tg.lt (by rintro (h | h | h); exact hsw.1 h; exact hsw.2.1 h; exact hsw.2.2 h))
 obtain ⟨r0, r1, rfz, rt⟩ := R5
 have f0 := rfz 0
 have f1 := rfz 1
 have RT := hide rt
 obtain ⟨t0, t1⟩ := set2_at r0 r1 (.int .i64 oN) (.int .i64 oA)
 clear HC1 HS1 HR1 rfz rt q0 q1 y0 hR5
 go_wp2
 refine bodyPost_ret (v := .tuple #[.agg #[.int .i64 oN, .int .i64 oA], .bool true]) (by simp [results, Tryz.results101, go_sem, t0, t1]; try rfl) rfl ?_
 have hsb : ∀ k, k ≠ w.heap.size → ((w5.setCell ⟨w.heap.size, 0, none⟩ (.int .i64 oN)).setCell ⟨w.heap.size, 1, none⟩ (.int .i64 oA)).heap[k]? = w5.heap[k]? := fun k hk => (Below.heap_setCell _ _ _ _ hk).trans (Below.heap_setCell _ _ _ _ hk)
 refine ⟨rfl, (unhide HT5).same (hsb t (by omega)) (hsb r (by omega)), (unhide HM5).blk (hsb mb (by omega)), ?_⟩
 have K6 : Kp (fun k => k = t ∨ k = r ∨ k = mb) w w5 := (Kp.below ((unhide HF1).drew)).trans (unhide HK5)
 exact ⟨K6.os, K6.tape, K6.output, Nat.le_trans K6.size (by simp [World.setCell]), fun k hk hn => (hsb k (by omega)).trans (K6.blk k hk hn)⟩
end Mg
end Go.Proofs.YtfefehkapffljaaGreatDoor
namespace Go.Proofs.YtfefehkapffljaaGreatDoor
open Go.RowKit Go.Maps
namespace Mg
open Fr Bd Zn Dz Sb
def Tkn (m : Nat) (sz : Int) (ss : List Sl) (a b : Int) : Prop := ∃ j i, GiveAt m sz ss (a, b) j i
theorem Tkn.w2 {N0 : Nat} {w : World} {c z : Nat} {ly : Ly} {sz : Int} {m : Nat} {bs : List Nat} {ss : List Sl} (h : DC N0 w c z ly sz m bs ss) {a b : Int} (ht : Tkn m sz ss a b) : W2 a b := by
 obtain ⟨j, i, s, es, hi, hb, hn, ha⟩ := ht
 have hok := h.ok s (List.mem_of_getElem? es)
 have hmu := mul_in h.mm.1 h.mm.2.2 hi
 have hat0 := hok.1
 have hat1 := hok.2.1
 have hnd := hok.2.2.2
 have hs := h.mm.1
 simp only at hn ha
 unfold W2
 simp [Lit.wf, IntKind.min, IntKind.max, IntKind.signed, IntKind.bits]
 omega
def OutR (m : Nat) (sz : Int) (ss : List Sl) (f : Int → Int → Option Nat) (oN oA : Int) (w : World) (ev : Ending) (w' : World) : Prop := Below w.heap.size w w' ∧ ((ev = .returned (.bool true) ∧ Tkn m sz ss oN oA ∧ f oN oA = none) ∨ (ev = .returned (.bool false) ∧ ¬ (Tkn m sz ss oN oA ∧ f oN oA = none)))
set_option maxRecDepth 100000 in
set_option maxHeartbeats 4000000 in
theorem out_ok (N0 : Nat) (c z : Nat) (ly : Ly) (sz : Int) (m : Nat) (bs : List Nat) (ss : List Sl) (oN oA : Int) (w : World) (h : DC N0 w c z ly sz m bs ss) (hlen : ss.length ≤ 10000) (q : Nat) (f : Int → Int → Option Nat) (hm : Ml w ly.1 q f) :
   Calls Tryz.prog 151 #[.pointer (some ⟨c, 0, none⟩), .agg #[.int .i64 oN, .int .i64 oA]] w fun ev w' => OutR m sz ss f oN oA w ev w' := by
 have F1 := ballo (Below.refl w.heap.size w) (.cells #[.int .i64 oN, .int .i64 oA] 42)
 have q' := World.cell?_alloc_new w #[.int .i64 oN, .int .i64 oA] 42
 have q0 := q' 0
 have q1 := q' 1
 simp only [List.getElem?_toArray, List.getElem?_cons_zero, List.getElem?_cons_succ] at q0 q1
 have hs1 : w.heap.size < (w.alloc (.cells #[.int .i64 oN, .int .i64 oA] 42)).heap.size := by simp
 have P1 := h.b F1
 have HFD := hide (find_ok N0 c z ly sz m bs ss oN oA _ P1 hlen)
 have HP1 := hide P1
 have HM1 := hide (hm.b F1)
 have HF1 := hide F1
 have HW := hide (fun (ht : Tkn m sz ss oN oA) => ht.w2 h)
 have RT : Hid (∀ w', Below w.heap.size w w' → Tkn m sz ss oN oA → f oN oA = none → OutR m sz ss f oN oA w (.returned (.bool true)) w') := fun w' h1 h2 h3 => ⟨h1, Or.inl ⟨rfl, h2, h3⟩⟩
 have RF : Hid (∀ w', Below w.heap.size w w' → ¬ (Tkn m sz ss oN oA ∧ f oN oA = none) → OutR m sz ss f oN oA w (.returned (.bool false)) w') := fun w' h1 h2 => ⟨h1, Or.inr ⟨rfl, h2⟩⟩
 clear h hm F1 P1 q'
 generalize OutR m sz ss f oN oA w = TR at *
 unfold ptr objV at *
 go_enter Tryz.func151, Tryz.ntmps151
 go_upto_region 1 with (fail)
 generalize w.alloc (.cells #[.int .i64 oN, .int .i64 oA] 42) = W at *
 generalize hFS : FdS m sz bs ss oN oA W = FR at HFD
 go_wp2_with fail
 refine (unhide HFD).mono ?_
 rintro ev w3 hf
 rw [← hFS] at hf
 clear HFD hFS
 cases hf with
 | no _ b3 hr =>
   have F3 := hide (btr (unhide HF1) b3)
   have e0 := (b3.cell (p := ⟨w.heap.size, 0, none⟩) hs1).trans q0
   have e1 := (b3.cell (p := ⟨w.heap.size, 1, none⟩) hs1).trans q1
   have HN := hide (show ¬ (Tkn m sz ss oN oA ∧ f oN oA = none) from fun ⟨⟨j, i, hg⟩, _⟩ => hr j i hg)
   clear RT HP1 HM1 HF1 HW b3 q0 q1 hr
   go_wp2
   go_quiet (fail)
   go_wp2
   exact (unhide RF) _ (bdN (unhide F3) _) (unhide HN)
 | yes j i b s _ hg eb es hi b3 =>
   have F3 := hide (btr (unhide HF1) b3)
   have e0 := (b3.cell (p := ⟨w.heap.size, 0, none⟩) hs1).trans q0
   have e1 := (b3.cell (p := ⟨w.heap.size, 1, none⟩) hs1).trans q1
   have P3 := (unhide HP1).b b3
   have d3 := P3.ym.c3
   have HT : Hid (Tkn m sz ss oN oA) := ⟨j, i, hg⟩
   have hw := (unhide HW) (unhide HT)
   have hr : ∀ n, (Instr.lookup 111 (.map (some ly.1)) (.agg #[.int .i64 oN, .int .i64 oA]) false).run Tryz.prog (w3.drewN n) = .ok (trV (f oN oA)) (w3.drewN n) := fun n => ((unhide HM1).b b3).lookN hw n
   cases hfo : f oN oA with
   | none =>
     rw [hfo] at hr
     simp only [trV] at hr
     have HO := hide hfo
     clear HP1 HM1 HF1 HW b3 q0 q1 hg eb es P3 RF hfo hw
     go_wp2
     go_quiet (fail)
     go_wp2
     exact (unhide RT) _ (bdN (unhide F3) _) (unhide HT) (unhide HO)
   | some t =>
     rw [hfo] at hr
     simp only [trV] at hr
     have HO : Hid (¬ (Tkn m sz ss oN oA ∧ f oN oA = none)) := fun ⟨_, h2⟩ => by rw [hfo] at h2; cases h2
     clear HP1 HM1 HF1 HW b3 q0 q1 hg eb es P3 RT hfo hw
     go_wp2
     go_quiet (fail)
     go_wp2
     exact (unhide RF) _ (bdN (unhide F3) _) (unhide HO)
end Mg
end Go.Proofs.YtfefehkapffljaaGreatDoor
namespace Go.Proofs.YtfefehkapffljaaGreatDoor
open Go.RowKit Go.Maps
namespace Mg
open Fr Bd Zn Dz Sb
theorem grown_kp {w w4 : World} {o : Obj} {v : Value} {r : Nat} (q : (w.alloc o).drew.grownBy w4 v.ownBlock) (hv : ∀ k, v.ownBlock = some k → k = r) : Kp (fun k => k = r) w w4 := by
 have b : Below w.heap.size w (w.alloc o).drew := (ballo (Below.refl _ _) o).drew
 exact ⟨q.os.trans b.os, q.tape.trans b.tape, q.output.trans b.output, Nat.le_trans b.size q.size, fun k hk hn => (q.block k (Nat.lt_of_lt_of_le hk b.size) (fun e => hn (hv k e.symm))).trans (b.block k hk)⟩
theorem OutR.b {m : Nat} {sz : Int} {ss : List Sl} {f : Int → Int → Option Nat} {oN oA : Int} {w w' : World} {ev : Ending} (h : OutR m sz ss f oN oA w ev w') : ∃ d : Bool, ev = .returned (.bool d) ∧ Below w.heap.size w w' ∧ Hid ((d = true → Tkn m sz ss oN oA ∧ f oN oA = none) ∧ (d = false → ¬ (Tkn m sz ss oN oA ∧ f oN oA = none))) := by
 obtain ⟨hb, ⟨rfl, h1, h2⟩ | ⟨rfl, h1⟩⟩ := h
 · exact ⟨true, rfl, hb, ⟨fun _ => ⟨h1, h2⟩, fun h => by cases h⟩⟩
 · exact ⟨false, rfl, hb, ⟨fun h => (by cases h), fun _ => h1⟩⟩
inductive LyR (N0 : Nat) (c t r mb q : Nat) (m : Nat) (sz : Int) (ss : List Sl) (f : Int → Int → Option Nat) (xs : List Bl) (oN oA : Int) (e : Nat → Addr) (w : World) : Ending → World → Prop
 | no (w' : World) (hb : Below w.heap.size w w') (hn : ¬ (Tkn m sz ss oN oA ∧ f oN oA = none)) : LyR N0 c t r mb q m sz ss f xs oN oA e w (.returned (errV (e 8))) w'
 | yes (r' : Nat) (w' : World) (ht : Tkn m sz ss oN oA) (hf : f oN oA = none) (hT : TRy N0 w' c t r' (xs ++ [(oN, oA)])) (hr : r' = r ∨ w.heap.size ≤ r') (hm : Ml w' mb (q + 1) (upF f oN oA (some t))) (hk : Kp (fun k => k = t ∨ k = r ∨ k = mb) w w') : LyR N0 c t r mb q m sz ss f xs oN oA e w (.returned .nilIface) w'
set_option maxRecDepth 100000 in
set_option maxHeartbeats 8000000 in
theorem lay_ok (N0 : Nat) (c z : Nat) (ly : Ly) (sz : Int) (m : Nat) (bs : List Nat) (ss : List Sl) (oN oA : Int) (w : World) (e : Nat → Addr) (he : ErrsM w e) (h : DC N0 w c z ly sz m bs ss) (hlen : ss.length ≤ 10000) (q : Nat) (hq : q ≤ 1000000) (f : Int → Int → Option Nat) (hm : Ml w ly.1 q f) (t r : Nat) (xs : List Bl) (hT : TRy N0 w c t r xs) (hxl : xs.length ≤ 1000) :
   Calls Tryz.prog 99 #[.pointer (some ⟨t, 0, none⟩), .agg #[.int .i64 oN, .int .i64 oA]] w fun ev w' => LyR N0 c t r ly.1 q m sz ss f xs oN oA e w ev w' := by
 obtain ⟨i0, hi0, hz0, hz1, hz2⟩ := info_parts info42o
 have HI := hide hi0
 have HZ := hide hz0
 have HZ1 := hide hz1
 have HZ2 := hide hz2
 clear hi0 hz0 hz1 hz2
 have F1 := ballo (Below.refl w.heap.size w) (.cells #[.int .i64 oN, .int .i64 oA] 42)
 have q' := World.cell?_alloc_new w #[.int .i64 oN, .int .i64 oA] 42
 have q0 := q' 0
 have q1 := q' 1
 simp only [List.getElem?_toArray, List.getElem?_cons_zero, List.getElem?_cons_succ] at q0 q1
 have hs1 : w.heap.size < (w.alloc (.cells #[.int .i64 oN, .int .i64 oA] 42)).heap.size := by simp
 have hN : N0 ≤ w.heap.size := Nat.le_of_lt (Nat.lt_of_le_of_lt hT.ge hT.tg.lt)
 have T1 := hT.b F1
 have k0 := T1.c0
 have HOUT := hide (out_ok N0 c z ly sz m bs ss oN oA _ ((h.b F1).b (drw _)) hlen q f ((hm.b F1).b (drw _)))
 have hne := hT.ne hm
 have htl := hT.tg.lt
 have hrl := hT.rlt
 have hml := hm.lt
 have HD1 := hide (h.b F1)
 have HW := hide (fun (ht : Tkn m sz ss oN oA) => ht.w2 h)
 have HT1 := hide T1
 have HM1 := hide (hm.b F1)
 have HF1 := hide F1
 have HE := hide he
 have RN : Hid (∀ w', Below w.heap.size w w' → ¬ (Tkn m sz ss oN oA ∧ f oN oA = none) → LyR N0 c t r ly.1 q m sz ss f xs oN oA e w (.returned (errV (e 8))) w') := fun w' h1 h2 => .no w' h1 h2
 have RY : Hid (∀ r' w', Tkn m sz ss oN oA → f oN oA = none → TRy N0 w' c t r' (xs ++ [(oN, oA)]) → (r' = r ∨ w.heap.size ≤ r') → Ml w' ly.1 (q + 1) (upF f oN oA (some t)) → Kp (fun k => k = t ∨ k = r ∨ k = ly.1) w w' → LyR N0 c t r ly.1 q m sz ss f xs oN oA e w (.returned .nilIface) w') := fun r' w' h1 h2 h3 h4 h5 h6 => .yes r' w' h1 h2 h3 h4 h5 h6
 clear h hm F1 T1 q' hT he
 generalize LyR N0 c t r ly.1 q m sz ss f xs oN oA e w = TR at *
 unfold ptr at *
 go_enter Tryz.func99, Tryz.ntmps99
 go_upto_region 1 with (fail)
 generalize w.alloc (.cells #[.int .i64 oN, .int .i64 oA] 42) = W at *
 have htW : t < W.heap.size := Nat.lt_trans htl hs1
 have HK := hide (fun w' (hb : Below W.drew.heap.size W.drew w') => show w'.cell? ⟨t, 0, none⟩ = some (.pointer (some ⟨c, 0, none⟩)) ∧ w'.cell? ⟨w.heap.size, 0, none⟩ = some (.int .i64 oN) ∧ w'.cell? ⟨w.heap.size, 1, none⟩ = some (.int .i64 oA) from ⟨(hb.cell (p := ⟨t, 0, none⟩) htW).trans k0, (hb.cell (p := ⟨w.heap.size, 0, none⟩) hs1).trans q0, (hb.cell (p := ⟨w.heap.size, 1, none⟩) hs1).trans q1⟩)
 go_region_held3 (fun w' => w'.cell? ⟨t, 0, none⟩ = some (.pointer (some ⟨c, 0, none⟩)) ∧ w'.cell? ⟨w.heap.size, 0, none⟩ = some (.int .i64 oN) ∧ w'.cell? ⟨w.heap.size, 1, none⟩ = some (.int .i64 oA)) ((first | exact (unhide HK) _ (Below.refl _ _) | exact (unhide HK) _ (by assumption) | (go_keep; done))) ((first
   | (go_at_call 151; refine (unhide HOUT).mono ?_; intro ev w3 hor; obtain ⟨d, rfl, b3, HOR⟩ := hor.b; clear hor)))
 have B3 : Below W.heap.size W w3 := bd (w := W) b3
 have HF3 := hide (btr (unhide HF1) B3)
 have y0 := (B3.cell (p := ⟨w.heap.size, 0, none⟩) hs1).trans q0
 have y1 := (B3.cell (p := ⟨w.heap.size, 1, none⟩) hs1).trans q1
 have T3 := (unhide HT1).b B3
 have k3 := T3.c0
 have hb3 : w.heap.size < w3.heap.size := Nat.lt_of_lt_of_le hs1 B3.size
 have HM3 := hide ((unhide HM1).b B3)
 have d3 := ((unhide HD1).b B3).ym.c3
 have hcl3 := ((unhide HD1).b B3).tg.lt
 have hct : c ≠ t := ((unhide HD1).b B3).tg.ne T3.tg (by decide)
 have htg := ((unhide HD1).b B3).tg
 obtain ⟨v, v1, vo, hv⟩ := T3.c1
 have HV := hide hv
 have hvr : ∀ k, v.ownBlock = some k → k = r := fun k hk => by
   rcases hv with ⟨rfl, _⟩ | ⟨cp, rfl⟩
   · cases hk
   · simpa [Value.ownBlock] using hk.symm
 obtain ⟨vp, vd, hvf⟩ := own_sl vo
 have HT3 := hide T3
 have HTG := hide htg
 clear HK HOUT b3 HT1 HM1 HD1 HF1 k0 q0 q1 B3 hv T3 htg
 unfold ptr at k3
 generalize hxn : xs.length = n at *
 have HXN := hide hxn
 clear hxn
 cases d with
 | false =>
   have hno := (unhide HOR).2 rfl
   have E8 := ((unhide HE).below (unhide HF3)).v8
   have RES := hide ((unhide RN) w3 (unhide HF3) hno)
   clear RN RY HOR hno HE
   unfold errV at *
   go_wp2
   exact unhide RES
 | true =>
   have hyes := (unhide HOR).1 rfl
   have hw := (unhide HW) hyes.1
   have HY := hide hyes
   have xf := (unhide HT3).fz 1
   have htl3 := (unhide HT3).tg.lt
   have T1 := (unhide HT3).tg
   have BA : Below w3.heap.size w3 (w3.alloc (.cells #[.int .i64 oN, .int .i64 oA] 42)).drew := (ballo (Below.refl _ _) _).drew
   have vo1 := own_b vo BA
   have hNb : N0 ≤ (w3.alloc (.cells #[.int .i64 oN, .int .i64 oA] 42)).drew.heap.size := Nat.le_trans (by omega) BA.size
   have T1A := T1.b BA
   have zcA := (BA.cell (p := ⟨t, 1, none⟩) htl3).trans v1
   have zfA := (BA.frozen (p := ⟨t, 1, none⟩) htl3).trans xf
   subst hvf
   clear RN HOR hyes HE HW
   go_wp2_with fail
   go_region_law (refine step_append_lies _ rfl (.tmp 17) (.tmp 19) 45 rfl N0 42 i0 (.agg #[.int .i64 0, .int .i64 0]) 2 16 Tryz.underlying45 (unhide HI) (unhide HZ) (unhide HZ1) (unhide HZ2) rfl (by decide) (.slice vp n vd) n (flat xs) (by simp [Act.eval]) vo1 ⟨w3.heap.size, 0, none⟩ 1 1 [.int .i64 oN, .int .i64 oA] (by simp [Act.eval]) rfl (by intro j u hj; match j, hj with | 0, hj => (simp at hj; subst hj; simp [Addr.add]) | 1, hj => (simp at hj; subst hj; simp [Addr.add])) (by intro u hu; simp at hu; rcases hu with rfl | rfl <;> rfl) (by omega) (by unfold maxLen; omega) (by omega) hNb _ rfl ?_; intro g4 c4 w4 o4 q4 hg4 hg5; have K4 := grown_kp q4 hvr; have e4 := q4.block t T1A.lt (own_nb vo1 T1A (by decide)); have zc4 : w4.cell? ⟨t, 1, none⟩ = some (.slice vp n vd) := (World.cell?_of_block (a := ⟨t, 1, none⟩) e4).trans zcA; have zf4 : w4.frozen? ⟨t, 1, none⟩ = false := (World.frozen?_of_block (a := ⟨t, 1, none⟩) e4).trans zfA)
   all_goals
     have e5 : ∀ k, k ≠ t → (w4.setCell ⟨t, 1, none⟩ (.slice (some ⟨g4, 0, none⟩) (n + 1) c4)).heap[k]? = w4.heap[k]? := fun k hk => Below.heap_setCell _ _ _ _ hk
     have K5 : Kp (fun k => k = t ∨ k = r ∨ k = ly.1) w3 (w4.setCell ⟨t, 1, none⟩ (.slice (some ⟨g4, 0, none⟩) (n + 1) c4)) := (K4.mono (fun k _ h => Or.inr (Or.inl h))).trans (Kp.set w4 t 1 _ (Or.inl rfl))
     have hcr : c ≠ r := by
       rcases (unhide HT3).row with h | h
       · rw [h]; exact hct
       · exact (unhide HTG).ne h.1 (by decide)
     have hcm : c ≠ ly.1 := (unhide HM3).ne (unhide HTG)
     have k5 : (w4.setCell ⟨t, 1, none⟩ (.slice (some ⟨g4, 0, none⟩) (n + 1) c4)).cell? ⟨t, 0, none⟩ = some (.pointer (some ⟨c, 0, none⟩)) := (cso (by simp)).trans ((World.cell?_of_block (a := ⟨t, 0, none⟩) e4).trans ((BA.cell (p := ⟨t, 0, none⟩) htl3).trans k3))
     have d5 := (K5.cell (p := ⟨c, 3, none⟩) hcl3 (by rintro (h | h | h); exact hct h; exact hcr h; exact hcm h)).trans d3
     have y50 := (K5.cell (p := ⟨w.heap.size, 0, none⟩) hb3 (by rintro (h | h | h) <;> (simp only at h; omega))).trans y0
     have y51 := (K5.cell (p := ⟨w.heap.size, 1, none⟩) hb3 (by rintro (h | h | h) <;> (simp only at h; omega))).trans y1
     have M5 := ((unhide HM3).blk (K4.blk ly.1 (unhide HM3).lt (fun e => hne.2 e.symm))).set hne.1 1 (.slice (some ⟨g4, 0, none⟩) (n + 1) c4)
     have G4 : Tag w4 g4 42 := by
       rcases o4.2 with ⟨e3, _⟩ | ⟨g', cap', cur, e3, _, hh, _⟩
       · cases e3
       · simp only [Value.slice.injEq, Option.some.injEq, Addr.mk.injEq] at e3
         obtain ⟨⟨rfl, _⟩, _⟩ := e3
         exact ⟨cur, _, hh⟩
     have T4 : Tag w4 t 194 := T1A.blk e4
     have hgt : g4 ≠ t := G4.ne T4 (by decide)
     have hgm : g4 ≠ ly.1 := M5.ne (G4.set _ _)
     have hfl : flat (xs ++ [(oN, oA)]) = flat xs ++ [.int .i64 oN, .int .i64 oA] := by rw [flat_append]; rfl
     have hln : (xs ++ [(oN, oA)]).length = n + 1 := by simp [unhide HXN]
     have T5 : TRy N0 (w4.setCell ⟨t, 1, none⟩ (.slice (some ⟨g4, 0, none⟩) (n + 1) c4)) c t g4 (xs ++ [(oN, oA)]) := by
       refine ⟨k5, ⟨.slice (some ⟨g4, 0, none⟩) (n + 1) c4, css zc4, ?_, Or.inr ⟨c4, by rw [hln]⟩⟩, T4.set _ _, (unhide HT3).ge, fun o => by rw [World.frozen?_setCell]; exact (World.frozen?_of_block (a := ⟨t, o, none⟩) e4).trans ((BA.frozen (p := ⟨t, o, none⟩) htl3).trans ((unhide HT3).fz o))⟩
       rw [hln, hfl]
       exact own_keepF o4 (fun g hg => by
         simp only [Value.ownBlock, Option.some.injEq] at hg
         subst hg
         exact e5 _ hgt)
     have hg4r : g4 = r ∨ w.heap.size ≤ g4 := by
       rcases hg4 with h | h
       · exact Or.inl (hvr _ h)
       · right
         have h1 := BA.size
         omega
     have HT5 := hide T5
     have HK5 := hide K5
     have HG4 := hide hg4r
     obtain ⟨w6, hmu, M6, K6⟩ := (M5.b (drw _)).store (q := q) (by unfold maxLen; omega) hw (some t)
     have HM6 := hide M6
     have HK6 := hide K6
     simp only [trV] at hmu
     have htl5 := T5.tg.lt
     have hgl5 := (G4.set ⟨t, 1, none⟩ (.slice (some ⟨g4, 0, none⟩) (n + 1) c4)).lt
     clear e5 K5 M5 T5 hg4r M6 K6 hfl hln k3 d3 y0 y1 HM3 o4 q4 hg4 hg5 zc4 zf4 e4 zcA zfA vo vo1 v1 xf BA T1A hNb T1 T4 G4 K4
     generalize w4.setCell ⟨t, 1, none⟩ (.slice (some ⟨g4, 0, none⟩) (n + 1) c4) = w5 at *
     go_wp2_with fail
     go_region
     go_wp2
     refine (unhide RY) g4 _ (unhide HY).1 (unhide HY).2 ((unhide HT5).same ((unhide HK6).block t htl5 hne.1 hne.1) ((unhide HK6).block g4 hgl5 hgm hgm)) (unhide HG4) (unhide HM6) ?_
     exact (Kp.below (unhide HF3)).trans ((unhide HK5).trans ((Kp.below (drw w5)).trans (Kp.kept (unhide HK6) (Or.inr (Or.inr rfl)) (Or.inr (Or.inr rfl)))))
end Mg
end Go.Proofs.YtfefehkapffljaaGreatDoor
