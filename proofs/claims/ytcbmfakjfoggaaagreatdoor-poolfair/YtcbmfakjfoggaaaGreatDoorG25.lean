/- Package slab's clear where an object lies on top of a tray · A tray's Lift · The library's IndexFunc over a cache's slabs; the closure of package slab's Give; a bit cleared. -/
import Derived.Test.YtcbmfakjfoggaaaGreatDoorG24
import Derived.Test.YtcbmfakjfoggaaaGreatDoorG22
import Derived.Test.YtcbmfakjfoggaaaGreatDoorG08
namespace Go.Proofs.YtcbmfakjfoggaaaGreatDoor
open Go.RowKit Go.Maps
namespace Mg
open Fr Bd Zn Dz Sb
theorem take_row (xs : List Bl) (cur : Array Value) (_hl : xs.length * 2 ≤ cur.size) (h : ∀ i, i < xs.length → cur[i * 2]? = some (.int .i64 (xs.getD i (0, 0)).1) ∧ cur[i * 2 + 1]? = some (.int .i64 (xs.getD i (0, 0)).2)) : cur.toList.take (xs.length * 2) = flat xs := by
  apply List.ext_getElem?
  intro j
  rw [List.getElem?_take]
  by_cases hj : j < xs.length * 2
  · rw [if_pos hj]
    have h1 := h (j / 2) (by omega)
    have h2 := flat_get xs (j / 2) (by omega)
    have e3 : xs.getD (j / 2) (0, 0) = xs[j / 2] := getD_lt (by omega)
    rw [e3] at h1
    rcases (by omega : j = j / 2 * 2 ∨ j = j / 2 * 2 + 1) with e | e
    · rw [e, Array.getElem?_toList, h1.1, Nat.mul_comm (j / 2) 2, h2.1]
    · rw [e, Array.getElem?_toList, h1.2, Nat.mul_comm (j / 2) 2, h2.2]
  · rw [if_neg hj]
    exact (List.getElem?_eq_none (by rw [flat_length]; omega)).symm
/-- A row of objects whose block turned and kept its form. -/
theorem row_back {N0 : Nat} {w w' : World} {g n cap : Nat} {xs ys : List Bl} (h : w.ownsRow N0 34 2 (.slice (some ⟨g, 0, none⟩) n cap) n (flat xs)) (hf : Fm g w w') (hr : Row w' g ys) (hn : ys.length ≤ n) : w'.ownsRow N0 34 2 (.slice (some ⟨g, 0, none⟩) ys.length cap) ys.length (flat ys) := by
  rcases id h.2 with ⟨e, _⟩ | ⟨g', cap', cur, e, hg, hh, h1, h2, h3, h4⟩
  · cases e
  · simp only [Value.slice.injEq, Option.some.injEq, Addr.mk.injEq, and_true, true_and] at e
    obtain ⟨rfl, rfl⟩ := e
    obtain ⟨cur', e', s'⟩ := hf cur 34 hh
    have hc : ∀ j, w'.cell? ⟨g, j, none⟩ = cur'[j]? := fun j => cell_of_row w' g j cur' 34 (0, 0) e'
    refine row_own h cur' e' (by rw [s', h3]) (by omega) (flat_length ys) (take_row ys cur' (by rw [s', h3]; omega) (fun i hi => ?_))
    have := hr.c i hi
    rw [hc, hc] at this
    exact this
theorem orow_of {w : World} {B g cap : Nat} {L : List Bl} (h : w.ownsRow B 34 2 (.slice (some ⟨g, 0, none⟩) L.length cap) L.length (flat L)) : L.length ≤ cap ∧ Row w g L := by
  rcases id h.2 with ⟨e, _⟩ | ⟨g', cap', cur, e, hb, hg, hle, hcap, hcs, hx⟩
  · cases e
  · simp only [Value.slice.injEq, Option.some.injEq, Addr.mk.injEq, and_true, true_and] at e
    obtain ⟨rfl, rfl⟩ := e
    refine ⟨hle, fun i hi => ?_, fun o _ => by simp [World.frozen?, hg], (Array.getElem?_eq_some_iff.1 hg).1⟩
    have hf := flat_get L i hi
    rw [List.getD_eq_getElem?_getD, List.getElem?_eq_getElem hi, Option.getD_some]
    rw [Nat.mul_comm i 2]
    exact ⟨(h.cellAt (2 * i) (by omega)).trans hf.1, (h.cellAt (2 * i + 1) (by omega)).trans hf.2⟩
theorem Ml.ne {w : World} {mb q : Nat} {f : Int → Int → Option Nat} (h : Ml w mb q f) {b t : Nat} (ht : Tag w b t) : b ≠ mb := fun e => by
  obtain ⟨o, h1, h2⟩ := h.kindless
  obtain ⟨cur, fz, h3⟩ := ht
  rw [← e, h3] at h1
  rw [← Option.some.inj h1] at h2
  cases h2
theorem TRy.ne {N0 : Nat} {w : World} {c t r mb q : Nat} {xs : List Bl} {f : Int → Int → Option Nat} (h : TRy N0 w c t r xs) (hm : Ml w mb q f) : t ≠ mb ∧ r ≠ mb := by
  refine ⟨hm.ne h.tg, ?_⟩
  rcases h.row with e | h'
  · rw [e]; exact hm.ne h.tg
  · exact hm.ne h'.1
/-- A tray that has objects has a row. -/
theorem TRy.form {N0 : Nat} {w : World} {c t r : Nat} {xs : List Bl} (h : TRy N0 w c t r xs) (hn : xs ≠ []) : ∃ cp, w.cell? ⟨t, 1, none⟩ = some (.slice (some ⟨r, 0, none⟩) xs.length cp) ∧ w.ownsRow N0 34 2 (.slice (some ⟨r, 0, none⟩) xs.length cp) xs.length (flat xs) ∧ r ≠ t := by
  obtain ⟨v, e, o, hv⟩ := h.c1
  have hl : 0 < xs.length := List.length_pos_iff.2 hn
  obtain ⟨g, cap, hv', _⟩ := o.form hl
  rcases hv with ⟨rfl, _⟩ | ⟨cp, rfl⟩
  · cases hv'
  · refine ⟨cp, e, o, fun e2 => ?_⟩
    have : Tag w r 34 := by
      rcases o.2 with ⟨e3, _⟩ | ⟨g', cap', cur, e3, _, hh, _⟩
      · cases e3
      · simp only [Value.slice.injEq, Option.some.injEq, Addr.mk.injEq] at e3
        obtain ⟨⟨rfl, _⟩, _⟩ := e3
        exact ⟨cur, _, hh⟩
    exact this.ne h.tg (by decide) e2
theorem Ml.set {w : World} {mb q : Nat} {f : Int → Int → Option Nat} (h : Ml w mb q f) {b : Nat} (hb : b ≠ mb) (o : Nat) (v : Value) : Ml (w.setCell ⟨b, o, none⟩ v) mb q f := h.blk (Below.heap_setCell _ _ _ _ (fun e => hb e.symm))
theorem own_keepF {w w' : World} {b e size n : Nat} {v : Value} {xs : List Value} (h : w.ownsRow b e size v n xs) (hb : ∀ g, v.ownBlock = some g → w'.heap[g]? = w.heap[g]?) : w'.ownsRow b e size v n xs := by
  refine ⟨h.1, ?_⟩
  rcases h.2 with h2 | ⟨g, cap, cur, rfl, h2, h3, h4⟩
  · exact Or.inl h2
  · exact Or.inr ⟨g, cap, cur, rfl, h2, (hb g rfl).trans h3, h4⟩
set_option maxRecDepth 100000 in
set_option maxHeartbeats 4000000 in
theorem clear_top (N0 c t r mb q : Nat) (f : Int → Int → Option Nat) (xs : List Bl) (o : Bl) (w : World) (c3 : w.cell? ⟨c, 3, none⟩ = some (.map (some mb))) (hm : Ml w mb q f) (hT : TRy N0 w c t r (xs ++ [o])) (hw : W2 o.1 o.2) (hf : f o.1 o.2 = some t) (hnd : (xs ++ [o]).Nodup) (hlen : (xs ++ [o]).length ≤ 256) (_hcm : c ≠ mb) :
    Calls Tryz.prog 169 #[.pointer (some ⟨c, 0, none⟩), .agg #[.int .i64 o.1, .int .i64 o.2]] w fun ev w' => ev = .returned (.tuple #[]) ∧ TRy N0 w' c t r xs ∧ Ml w' mb q (upF f o.1 o.2 none) ∧ Kp (fun k => k = t ∨ k = r ∨ k = mb) w w' := by
  obtain ⟨oN, oA⟩ := o
  simp only at *
  have F1 := ballo (Below.refl w.heap.size w) (.cells #[.int .i64 oN, .int .i64 oA] 34)
  have q' := World.cell?_alloc_new w #[.int .i64 oN, .int .i64 oA] 34
  have q0 := q' 0
  have q1 := q' 1
  have hcl := World.block_lt_of_cell? w _ c3
  have d3 := (F1.cell (p := ⟨c, 3, none⟩) hcl).trans c3
  have hbl : w.heap.size < (w.alloc (.cells #[.int .i64 oN, .int .i64 oA] 34)).heap.size := by simp
  have hr : ∀ n, (Instr.lookup 245 (.map (some mb)) (.agg #[.int .i64 oN, .int .i64 oA]) false).run Tryz.prog ((w.alloc (.cells #[.int .i64 oN, .int .i64 oA] 34)).drewN n) = .ok (.pointer (some ⟨t, 0, none⟩)) ((w.alloc (.cells #[.int .i64 oN, .int .i64 oA] 34)).drewN n) := fun n => by
    have := (hm.b F1).lookN hw n
    rw [hf] at this
    exact this
  simp only [List.getElem?_toArray, List.getElem?_cons_zero, List.getElem?_cons_succ] at q0 q1
  have HF1 := hide F1
  have HM1 := hide (hm.b F1)
  have HT1 := hide (hT.b F1)
  have HCL := hide hcl
  have hrl := hT.rlt
  have hne := hT.ne hm
  clear q' c3 hm hf hT F1
  go_enter Tryz.func169, Tryz.ntmps169
  go_upto_region 1 with (fail)
  generalize w.alloc (.cells #[.int .i64 oN, .int .i64 oA] 34) = W at *
  go_quiet (fail)
  have B2 : Below W.heap.size W (W.drewN nq) := bdN (Below.refl _ _) _
  have HM2 := hide ((unhide HM1).b B2)
  have HT2 := hide ((unhide HT1).b B2)
  have HF2 := hide (btr (unhide HF1) B2)
  have e3 := (B2.cell (p := ⟨c, 3, none⟩) (by have := (unhide HF1).size; simp only; have := unhide HCL; simp only at this; omega)).trans d3
  have e0 := (B2.cell (p := ⟨w.heap.size, 0, none⟩) hbl).trans q0
  have e1 := (B2.cell (p := ⟨w.heap.size, 1, none⟩) hbl).trans q1
  have hb2 : w.heap.size < (W.drewN nq).heap.size := Nat.lt_of_lt_of_le hbl B2.size
  clear hr q0 q1 d3 HM1 HT1 HF1 B2 hbl
  generalize W.drewN nq = W2' at *
  obtain ⟨w3, hd, M3, K3⟩ := ((unhide HM2).b (drw W2')).drop hw 0
  have hdel : ∀ ty, (Builtin.delete_ #[245, 34] ty #[.map (some mb), .agg #[.int .i64 oN, .int .i64 oA]]).run Tryz.prog W2'.drew = .ok (.tuple #[]) w3 := fun _ => hd
  have T2 := unhide HT2
  obtain ⟨cp, s1, so, hrt⟩ := T2.form (by simp)
  have hcb : w.heap.size ≠ mb := fun e => by
    have := (unhide HM2).ne (b := w.heap.size) (t := 34)
    have hl := (unhide HM2).lt
    exact absurd e (by
      intro e
      obtain ⟨o, h1, h2⟩ := (unhide HM2).kindless
      rw [← e] at h1
      unfold World.cell? at e0
      simp only [h1] at e0
      cases o <;> simp_all [kind])
  have x1 := (K3.cell (p := ⟨t, 1, none⟩) T2.tg.lt hne.1 hne.1).trans s1
  have xf := (World.frozen?_of_block (w := W2') (a := ⟨t, 1, none⟩) (K3.block t T2.tg.lt hne.1 hne.1)).trans (T2.fz 1)
  have y0 := (K3.cell (p := ⟨w.heap.size, 0, none⟩) hb2 hcb hcb).trans e0
  have y1 := (K3.cell (p := ⟨w.heap.size, 1, none⟩) hb2 hcb hcb).trans e1
  have so3 := own_keepF so (w' := w3) (fun g hg => by
    simp only [Value.ownBlock, Option.some.injEq] at hg
    subst hg
    exact K3.block r (so.lt r rfl).2 hne.2 hne.2)
  obtain ⟨hle, R3⟩ := orow_of so3
  have hs3 := K3.size
  have hcb3 : w.heap.size < w3.heap.size := Nat.lt_of_lt_of_le hb2 hs3
  have HOD := hide (odelete_ok (xs ++ [(oN, oA)]) r cp w.heap.size oN oA w3 R3 hlen hle y0 y1 hcb3 (by omega))
  have HK3 : Hid (Kp (fun k => k = t ∨ k = r ∨ k = mb) w w3) := ((Kp.below (btr (unhide HF2) (drw W2'))).trans (Kp.kept K3 (Or.inr (Or.inr rfl)) (Or.inr (Or.inr rfl))))
  have HT3 := hide (T2.same (w' := w3) (K3.block t T2.tg.lt hne.1 hne.1) (K3.block r T2.rlt hne.2 hne.2))
  have HM3 := hide M3
  have HSO := hide so3
  clear R3 so so3 s1 hd y0 y1 T2 HM2 HT2 HF2 M3 hle
  rw [filter_top hnd] at HOD
  have HLE := hide (show xs.length ≤ (xs ++ [(oN, oA)]).length by simp)
  generalize xs ++ [(oN, oA)] = L at *
  go_wp2_with fail
  go_region
  clear e0 e1 e3 hdel
  go_wp2_with fail
  refine (unhide HOD).mono ?_
  rintro ev w4 ⟨k4, M, rfl, rfl, R4⟩
  have T3 := unhide HT3
  have x14 := (k4.k.cell (p := ⟨t, 1, none⟩) T3.tg.lt (Ne.symm hrt) (Ne.symm hrt)).trans (x1)
  have xf4 := (World.frozen?_of_block (w := w3) (a := ⟨t, 1, none⟩) (k4.k.block t T3.tg.lt (Ne.symm hrt) (Ne.symm hrt))).trans xf
  have HR4 := hide R4
  have HK4 := hide k4
  clear R4 k4 HOD
  go_wp2
  go_end0
  have T3 := unhide HT3
  have hb4 := (unhide HK4).k.block t T3.tg.lt (Ne.symm hrt) (Ne.symm hrt)
  have so4 := row_back (unhide HSO) (unhide HK4).f (unhide HR4) (unhide HLE)
  have T4 : Tag w4 t 286 := T3.tg.blk hb4
  have h0 : w4.cell? ⟨t, 0, none⟩ = some (ptr c) := (World.cell?_of_block (w := w3) (a := ⟨t, 0, none⟩) hb4).trans T3.c0
  refine ⟨rfl, ⟨(cso (by simp)).trans h0, ⟨_, css x14, own_keepF so4 (fun g hg => ?_), Or.inr ⟨cp, rfl⟩⟩, T4.set _ _, T3.ge, fun o => by rw [World.frozen?_setCell]; exact (World.frozen?_of_block (w := w3) (a := ⟨t, o, none⟩) hb4).trans (T3.fz o)⟩, ?_, ?_⟩
  · simp only [Value.ownBlock, Option.some.injEq] at hg
    subst hg
    exact Below.heap_setCell _ _ _ _ hrt
  · exact ((unhide HM3).blk ((unhide HK4).k.block mb (unhide HM3).lt (Ne.symm hne.2) (Ne.symm hne.2))).set hne.1 _ _
  · exact ((unhide HK3).trans (Kp.kept (unhide HK4).k (Or.inr (Or.inl rfl)) (Or.inr (Or.inl rfl)))).trans (Kp.set _ t 1 _ (Or.inl rfl))
end Mg
end Go.Proofs.YtcbmfakjfoggaaaGreatDoor
namespace Go.Proofs.YtcbmfakjfoggaaaGreatDoor
open Go.RowKit Go.Maps
namespace Mg
open Fr Bd Zn Dz Sb
theorem lift_none {N0 c t r : Nat} {w : World} (hT : TRy N0 w c t r []) :
    Calls Tryz.prog 100 #[.pointer (some ⟨t, 0, none⟩)] w fun ev w' => ev = .returned (.tuple #[.agg #[.int .i64 0, .int .i64 0], .bool false]) ∧ Below w.heap.size w w' := by
  have F1 := ballo (Below.refl w.heap.size w) (.cells #[.int .i64 0, .int .i64 0] 34)
  have R1 := rx_new w
  obtain ⟨v, e, o, _⟩ := (hT.b F1).c1
  obtain ⟨p, d, rfl⟩ := own_sl o
  clear hT o
  simp only [List.length_nil] at e
  obtain ⟨r0, r1, rfz, _⟩ := R1
  have f0 := rfz 0
  have f1 := rfz 1
  have hF := hide F1
  clear F1 rfz
  go_enter Tryz.func100, Tryz.ntmps100
  go_upto_region 1 with (fail)
  generalize hW : w.alloc (.cells #[.int .i64 0, .int .i64 0] 34) = W at *
  obtain ⟨t0, t1⟩ := set2_at r0 r1 (.int .i64 0) (.int .i64 0)
  go_wp2
  refine bodyPost_ret (v := .tuple #[.agg #[.int .i64 0, .int .i64 0], .bool false]) (by simp [results, Tryz.results100, go_sem, t0, t1]; try rfl) rfl ?_
  exact ⟨rfl, below_set2 (unhide hF) (Nat.le_refl _) _ _⟩
set_option maxRecDepth 100000 in
set_option maxHeartbeats 4000000 in
theorem lift_top (N0 c t r mb q : Nat) (f : Int → Int → Option Nat) (xs : List Bl) (o : Bl) (w : World) (c3 : w.cell? ⟨c, 3, none⟩ = some (.map (some mb))) (hm : Ml w mb q f) (hT : TRy N0 w c t r (xs ++ [o])) (hw : W2 o.1 o.2) (hf : f o.1 o.2 = some t) (hnd : (xs ++ [o]).Nodup) (hlen : (xs ++ [o]).length ≤ 256) (hcm : c ≠ mb) :
    Calls Tryz.prog 100 #[.pointer (some ⟨t, 0, none⟩)] w fun ev w' => ev = .returned (.tuple #[.agg #[.int .i64 o.1, .int .i64 o.2], .bool true]) ∧ TRy N0 w' c t r xs ∧ Ml w' mb q (upF f o.1 o.2 none) ∧ Kp (fun k => k = t ∨ k = r ∨ k = mb) w w' := by
  have F1 := ballo (Below.refl w.heap.size w) (.cells #[.int .i64 0, .int .i64 0] 34)
  have R1 := rx_new w
  have hcl := World.block_lt_of_cell? w _ c3
  simp only at hcl
  have T1 := hT.b F1
  obtain ⟨cp, s1, so, hrt⟩ := T1.form (by simp)
  have k0 := T1.c0
  have hl : (xs ++ [o]).length = xs.length + 1 := by simp
  have hfl := flat_get (xs ++ [o]) xs.length (by omega)
  have ho : (xs ++ [o])[xs.length]'(by omega) = o := by simp
  rw [ho] at hfl
  have z0 := (so.cellAt (2 * xs.length) (by omega)).trans hfl.1
  have z1 := (so.cellAt (2 * xs.length + 1) (by omega)).trans hfl.2
  rw [Nat.mul_comm 2] at z0 z1
  rw [hl] at s1
  have hk0 : (0 : Int) ≤ (xs.length : Int) := by omega
  have hk1 : (xs.length : Int) < ((xs.length + 1 : Nat) : Int) := by omega
  have hk2 : ((xs.length + 1 : Nat) : Int) - 1 = (xs.length : Int) := by omega
  have hk3 : (((xs.length + 1 : Nat) : Int) == 0) = false := by simp; omega
  have hlN : xs.length ≤ 256 := by omega
  have HCL : Hid (∀ w', Below (w.alloc (.cells #[.int .i64 0, .int .i64 0] 34)).heap.size (w.alloc (.cells #[.int .i64 0, .int .i64 0] 34)) w' → Calls Tryz.prog 169 #[.pointer (some ⟨c, 0, none⟩), .agg #[.int .i64 o.1, .int .i64 o.2]] w' fun ev w2 => ev = .returned (.tuple #[]) ∧ TRy N0 w2 c t r xs ∧ Ml w2 mb q (upF f o.1 o.2 none) ∧ Kp (fun k => k = t ∨ k = r ∨ k = mb) w' w2) := fun w' hb => clear_top N0 c t r mb q f xs o w' (((btr F1 hb).cell (p := ⟨c, 3, none⟩) hcl).trans c3) (hm.b (btr F1 hb)) (T1.b hb) hw hf hnd hlen hcm
  have HT := hide T1
  have HF := hide F1
  have hrl := T1.rlt
  have htl := T1.tg.lt
  have hrw := hT.rlt
  have htw := hT.tg.lt
  have hmw := hm.lt
  have HR := hide R1
  obtain ⟨oN, oA⟩ := o
  simp only at *
  clear T1 F1 hT hm c3 so hl hfl ho hnd hlen hw hf R1
  generalize xs.length = k at *
  unfold ptr at k0
  go_enter Tryz.func100, Tryz.ntmps100
  go_upto_region 1 with (fail)
  generalize hW : w.alloc (.cells #[.int .i64 0, .int .i64 0] 34) = W at *
  go_wp2_with fail
  go_region
  have B1 : Below W.heap.size W (W.alloc (.cells #[.int .i64 oN, .int .i64 oA] 34)).drew := (ballo (Below.refl _ _) _).drew
  have q' := World.cell?_alloc_new W #[.int .i64 oN, .int .i64 oA] 34
  have q0 : (W.alloc (.cells #[.int .i64 oN, .int .i64 oA] 34)).drew.cell? ⟨W.heap.size, 0, none⟩ = some (.int .i64 oN) := q' 0
  have q1 : (W.alloc (.cells #[.int .i64 oN, .int .i64 oA] 34)).drew.cell? ⟨W.heap.size, 1, none⟩ = some (.int .i64 oA) := q' 1
  have hbx : W.heap.size < (W.alloc (.cells #[.int .i64 oN, .int .i64 oA] 34)).drew.heap.size := by show _ < (W.alloc _).heap.size; rw [World.size_alloc]; omega
  have y0 := (B1.cell (p := ⟨t, 0, none⟩) htl).trans k0
  have HR1 := hide ((unhide HR).b B1)
  have hwW : w.heap.size < W.heap.size := (unhide HR).tg.lt
  have HC1 := hide ((unhide HCL) (W.alloc (.cells #[.int .i64 oN, .int .i64 oA] 34)).drew.drew B1.drew)
  have HF1 := hide (btr (unhide HF) B1)
  clear HCL HR HT k0 s1 z0 z1 q' HF hW
  have hsW : W.heap.size ≠ t ∧ W.heap.size ≠ r ∧ W.heap.size ≠ mb := ⟨by omega, by omega, by omega⟩
  have hsw : w.heap.size ≠ t ∧ w.heap.size ≠ r ∧ w.heap.size ≠ mb := ⟨by omega, by omega, by omega⟩
  generalize (W.alloc (.cells #[.int .i64 oN, .int .i64 oA] 34)).drew = W1 at *
  generalize W.heap.size = b4 at *
  go_wp2_with fail
  have HS1 := hide (show W1.drew.cell? ⟨t, 0, none⟩ = some (.pointer (some ⟨c, 0, none⟩)) ∧ W1.drew.cell? ⟨b4, 0, none⟩ = some (.int .i64 oN) ∧ W1.drew.cell? ⟨b4, 1, none⟩ = some (.int .i64 oA) from ⟨y0, q0, q1⟩)
  go_region_held3 (fun w' => w'.cell? ⟨t, 0, none⟩ = some (.pointer (some ⟨c, 0, none⟩)) ∧ w'.cell? ⟨b4, 0, none⟩ = some (.int .i64 oN) ∧ w'.cell? ⟨b4, 1, none⟩ = some (.int .i64 oA)) ((first | exact unhide HS1 | (go_keep; done) | assumption)) ((first
    | (go_at_call 169; refine (unhide HC1).mono ?_; rintro ev w5 ⟨rfl, T5, M5, K5⟩; have HT5 := hide T5; have HM5 := hide M5; have HK5 := hide K5; have s5 : w5.cell? ⟨t, 0, none⟩ = some (.pointer (some ⟨c, 0, none⟩)) ∧ w5.cell? ⟨b4, 0, none⟩ = some (.int .i64 oN) ∧ w5.cell? ⟨b4, 1, none⟩ = some (.int .i64 oA) := ⟨T5.c0, (K5.cell (p := ⟨b4, 0, none⟩) hbx (by simp only; rintro (h | h | h); exact hsW.1 h; exact hsW.2.1 h; exact hsW.2.2 h)).trans q0, (K5.cell (p := ⟨b4, 1, none⟩) hbx (by simp only; rintro (h | h | h); exact hsW.1 h; exact hsW.2.1 h; exact hsW.2.2 h)).trans q1⟩; clear T5 M5 K5)))
  obtain ⟨s50, s51, s52⟩ := s5
  have hR5 := (unhide HR1).b (drw W1)
  have R5 := hR5.blk ((unhide HK5).blk w.heap.size hR5.tg.lt (by rintro (h | h | h); exact hsw.1 h; exact hsw.2.1 h; exact hsw.2.2 h))
  obtain ⟨r0, r1, rfz, rt⟩ := R5
  have f0 := rfz 0
  have f1 := rfz 1
  have RT := hide rt
  obtain ⟨t0, t1⟩ := set2_at r0 r1 (.int .i64 oN) (.int .i64 oA)
  clear HC1 HS1 HR1 rfz rt q0 q1 y0 hR5
  go_wp2
  refine bodyPost_ret (v := .tuple #[.agg #[.int .i64 oN, .int .i64 oA], .bool true]) (by simp [results, Tryz.results100, go_sem, t0, t1]; try rfl) rfl ?_
  have hsb : ∀ k, k ≠ w.heap.size → ((w5.setCell ⟨w.heap.size, 0, none⟩ (.int .i64 oN)).setCell ⟨w.heap.size, 1, none⟩ (.int .i64 oA)).heap[k]? = w5.heap[k]? := fun k hk => (Below.heap_setCell _ _ _ _ hk).trans (Below.heap_setCell _ _ _ _ hk)
  refine ⟨rfl, (unhide HT5).same (hsb t (by omega)) (hsb r (by omega)), (unhide HM5).blk (hsb mb (by omega)), ?_⟩
  have K6 : Kp (fun k => k = t ∨ k = r ∨ k = mb) w w5 := (Kp.below ((unhide HF1).drew)).trans (unhide HK5)
  exact ⟨K6.os, K6.tape, K6.output, Nat.le_trans K6.size (by simp [World.setCell]), fun k hk hn => (hsb k (by omega)).trans (K6.blk k hk hn)⟩
end Mg
end Go.Proofs.YtcbmfakjfoggaaaGreatDoor
namespace Go.Proofs.YtcbmfakjfoggaaaGreatDoor
open Go.RowKit Go.Maps
namespace Sb
open Fr Bd Zn Dz
set_option maxHeartbeats 1000000 in
theorem idx_slabs (q : Option Addr) (n c : Nat) (B : Nat → Nat) (X : Nat → Sl) (g : Nat) (lb : Array Value) (p : Nat → Bool) (eg : ∀ args w, (callFunc g args).run Tryz.prog w = .ok (.enter g args) w) (w : World)
    (hz : Slabs w q n B X) (hn : n ≤ 100000) (hp : ∀ i, i < n → ∀ W, Below w.heap.size w W → Calls Tryz.prog g (#[ptr (B i)] ++ lb) W fun ev W' => ev = .returned (.bool (p i)) ∧ Below w.heap.size w W') :
    Calls Tryz.prog 254 #[.slice q n c, .func (.func g) #[] lb] w fun ev w' => ∃ r : Int, ev = .returned (.int .i64 r) ∧ Fst p n r ∧ Below w.heap.size w w' := by
  have HP := hide hp
  clear hp
  unfold ptr at *
  go_enter Tryz.func254, Tryz.ntmps254
  go_wp2
  go_loopw [8] (fun s wr => ∃ i : Nat, s = .int .i64 i ∧ i ≤ n ∧ Below w.heap.size w wr ∧ Hid (∀ j, j < i → p j = false)) (fun s _ => n - (RowKit.intOf s).toNat)
  case atStart => exact ⟨0, rfl, Nat.zero_le _, Below.refl _ _, fun j hj => by omega⟩
  case round =>
    obtain ⟨i, rfl, hi, hb, ha⟩ := hrel
    by_cases hin : i < n
    · obtain ⟨blk, rfl, hbl, hc, _⟩ := hz i hin
      unfold ptr at hc
      have hc2 := (hb.cell (p := ⟨blk, i, none⟩) hbl).trans hc
      have hcall := (unhide HP) i hin wr hb
      clear hc hbl
      generalize B i = y at hc2 hcall
      cases hq : p i with
      | true =>
        have HA := hide (show (∃ i' : Nat, i' < n ∧ ((i : Int)) = i' ∧ p i' = true ∧ ∀ j, j < i' → p j = false) from ⟨i, hin, rfl, hq, unhide ha⟩)
        rw [hq] at hcall
        have HC := hide hcall
        clear hcall ha hq
        go_wp2_with (go_at_fn g; refine (unhide HC).mono ?_; rintro e w' ⟨rfl, hb'⟩)
        go_ret
        exact ⟨_, rfl, Or.inr (unhide HA), hb'⟩
      | false =>
        have HA := hide (next_no (unhide ha) hq)
        rw [hq] at hcall
        have HC := hide hcall
        clear hcall ha hq
        go_wp2_with (go_at_fn g; refine (unhide HC).mono ?_; rintro e w' ⟨rfl, hb'⟩)
        go_roundw
        case rel => exact ⟨i + 1, by go_num, by omega, hb', HA⟩
        case measure => simp [RowKit.intOf]; omega
    · have hin2 : i = n := by omega
      subst hin2
      go_wp2
      go_ret
      exact ⟨_, rfl, Or.inl ⟨rfl, unhide ha⟩, hb⟩
theorem eg115 : ∀ args w, (callFunc 253 args).run Tryz.prog w = .ok (.enter 253 args) w := enters_of Tryz.func253 (by kernel_rfl) rfl
/-- Does an object lie on a slab's page? -/
def rnd (s : Sl) (oN oA : Int) : Bool := decide (oN = s.nd ∧ s.at_ * 64 ≤ oA ∧ oA < s.at_ * 64 + 64)
set_option maxRecDepth 100000 in
set_option maxHeartbeats 4000000 in
theorem around_ok (c b cb ob : Nat) (sz : Int) (s : Sl) (oN oA : Int) (w : World) (hcb : w.cell? ⟨cb, 0, none⟩ = some (ptr c)) (h0 : w.cell? ⟨b, 0, none⟩ = some (.int .i64 s.nd)) (h1 : w.cell? ⟨b, 1, none⟩ = some (.int .i64 s.at_)) (hc : w.cell? ⟨c, 1, none⟩ = some (.int .i64 sz)) (hs : 1 ≤ sz ∧ sz ≤ 64) (ha : 0 ≤ s.at_ ∧ s.at_ < 256)
    (o0 : w.cell? ⟨ob, 0, none⟩ = some (.int .i64 oN)) (o1 : w.cell? ⟨ob, 1, none⟩ = some (.int .i64 oA)) :
    Calls Tryz.prog 253 (#[ptr b] ++ #[ptr cb, ptr ob]) w fun ev w' => ev = .returned (.bool (rnd s oN oA)) ∧ Below w.heap.size w w' := by
  have HO := hide (obj_ok c b sz s.nd s.at_ 0 w h0 h1 hc ha hs ⟨by omega, by omega⟩)
  rw [show s.at_ * 64 + 0 * sz = s.at_ * 64 by simp] at HO
  have lo := World.block_lt_of_cell? w _ o0
  simp only at lo
  rw [show (#[ptr b] ++ #[ptr cb, ptr ob] : Array Value) = #[ptr b, ptr cb, ptr ob] from rfl]
  have hwr : IntKind.i64.wrap (s.at_ * 64 + 64) = s.at_ * 64 + 64 := IntWalk.i64_in _ (by omega)
  unfold rnd
  clear h0 h1 hc
  generalize (s.nd : Int) = nd at *
  generalize hq : s.at_ * 64 = q at *
  have h64 : 0 ≤ q ∧ q ≤ 16384 := by omega
  clear ha hq
  have arms : ∃ d1 d2 d3 : Bool, (oN == nd) = d1 ∧ decide (oA ≥ q) = d2 ∧ decide (oA < q + 64) = d3 ∧ decide (oN = nd ∧ q ≤ oA ∧ oA < q + 64) = (d1 && d2 && d3) := by
    refine ⟨_, _, _, rfl, rfl, rfl, ?_⟩
    by_cases c1 : oN = nd <;> by_cases c2 : q ≤ oA <;> by_cases c3 : oA < q + 64 <;> simp [c1, c2, c3]
  obtain ⟨d1, d2, d3, e1, e2, e3, e4⟩ := arms
  rw [e4]
  clear e4
  have HF := hide (fun w' (hb : Below w.heap.size w w') => (⟨((ballo (Below.refl _ w') (.cells #[.int .i64 nd, .int .i64 q] 34)).cell (p := ⟨ob, 0, none⟩) (Nat.lt_of_lt_of_le lo hb.size)).trans ((hb.cell (p := ⟨ob, 0, none⟩) lo).trans o0), ((ballo (Below.refl _ w') (.cells #[.int .i64 nd, .int .i64 q] 34)).cell (p := ⟨ob, 1, none⟩) (Nat.lt_of_lt_of_le lo hb.size)).trans ((hb.cell (p := ⟨ob, 1, none⟩) lo).trans o1), World.cell?_alloc_new w' #[.int .i64 nd, .int .i64 q] 34 0, World.cell?_alloc_new w' #[.int .i64 nd, .int .i64 q] 34 1⟩ : (w'.alloc (.cells #[.int .i64 nd, .int .i64 q] 34)).cell? ⟨ob, 0, none⟩ = some (.int .i64 oN) ∧ (w'.alloc (.cells #[.int .i64 nd, .int .i64 q] 34)).cell? ⟨ob, 1, none⟩ = some (.int .i64 oA) ∧ (w'.alloc (.cells #[.int .i64 nd, .int .i64 q] 34)).cell? ⟨w'.heap.size, 0, none⟩ = some (.int .i64 nd) ∧ (w'.alloc (.cells #[.int .i64 nd, .int .i64 q] 34)).cell? ⟨w'.heap.size, 1, none⟩ = some (.int .i64 q)))
  clear o0 o1
  unfold ptr objV at *
  go_enter Tryz.func253, Tryz.ntmps253
  go_wp2_with fail
  refine (unhide HO).mono ?_
  rintro ev w3 ⟨rfl, b3⟩
  obtain ⟨k0, k1, k2, k3⟩ := (unhide HF) w3 b3
  have F4 := ballo b3 (.cells #[.int .i64 nd, .int .i64 q] 34)
  clear HO HF b3 hcb
  go_upto_region 2 with (fail)
  generalize w3.alloc (.cells #[.int .i64 nd, .int .i64 q] 34) = W4 at *
  cases d1
  · go_wp2
    go_ret
    exact ⟨rfl, F4⟩
  · cases d2
    · go_wp2
      go_ret
      exact ⟨rfl, F4⟩
    · go_wp2
      go_ret
      exact ⟨rfl, F4⟩
end Sb
end Go.Proofs.YtcbmfakjfoggaaaGreatDoor
