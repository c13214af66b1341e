/- Trays and a depot in memory · cmp.Or of two; how a slab lies to a place: the closure of package slab's add · The library's BinarySearchFunc over a cache's slabs, by contract. -/
import Derived.Test.YtcbmfakjfoggaaaGreatDoorG10
import Derived.Test.YtcbmfakjfoggaaaGreatDoorG17
import Derived.Test.YtcbmfakjfoggaaaGreatDoorG11
import Derived.Test.YtcbmfakjfoggaaaGreatDoorG03
import Derived.Test.YtcbmfakjfoggaaaGreatDoorG13
import Derived.BigQuiet
import Derived.Deep.RegionHeld3
import Derived.Deep.LoopGhost
namespace Go.Proofs.YtcbmfakjfoggaaaGreatDoor
open Go.RowKit Go.Maps
namespace Mg
open Fr Bd Zn Dz Sb
theorem Ml.kindless {w : World} {mb q : Nat} {f : Int → Int → Option Nat} (h : Ml w mb q f) : ∃ o, w.heap[mb]? = some o ∧ kind o = none := by
  obtain ⟨D, ⟨es, clock, h1, _⟩, _⟩ := h.own
  exact ⟨_, h1, rfl⟩
theorem own_sl {w : World} {b e size n : Nat} {v : Value} {xs : List Value} (h : w.ownsRow b e size v n xs) : ∃ p d, v = .slice p n d := by
  rcases h.2 with ⟨rfl, rfl⟩ | ⟨g, cap, cur, rfl, _⟩
  · exact ⟨_, _, rfl⟩
  · exact ⟨_, _, rfl⟩
/-- A tray in block t, its objects in block r (t itself: it has had none). -/
structure TRy (N0 : Nat) (w : World) (c t r : Nat) (xs : List Bl) : Prop where
  c0 : w.cell? ⟨t, 0, none⟩ = some (ptr c)
  c1 : ∃ v, w.cell? ⟨t, 1, none⟩ = some v ∧ w.ownsRow N0 34 2 v xs.length (flat xs) ∧ ((v = .slice none 0 0 ∧ r = t) ∨ ∃ cp, v = .slice (some ⟨r, 0, none⟩) xs.length cp)
  tg : Tag w t 286
  ge : N0 ≤ t
  fz : ∀ o, w.frozen? ⟨t, o, none⟩ = false
section
variable {N0 : Nat} {w w' : World} {c t r : Nat} {xs : List Bl}
theorem TRy.row (h : TRy N0 w c t r xs) : r = t ∨ (Tag w r 34 ∧ N0 ≤ r) := by
  obtain ⟨v, _, o, (⟨_, e⟩ | ⟨cp, rfl⟩)⟩ := h.c1
  · exact Or.inl e
  · rcases o.2 with ⟨e, _⟩ | ⟨g, cap, cur, e, hg, hh, _⟩
    · cases e
    · simp only [Value.slice.injEq, Option.some.injEq, Addr.mk.injEq] at e
      obtain ⟨⟨rfl, _⟩, _⟩ := e
      exact Or.inr ⟨⟨cur, _, hh⟩, hg⟩
theorem TRy.rlt (h : TRy N0 w c t r xs) : r < w.heap.size := by
  rcases h.row with rfl | h'
  · exact h.tg.lt
  · exact h'.1.lt
theorem TRy.rge (h : TRy N0 w c t r xs) : N0 ≤ r := by
  rcases h.row with rfl | h'
  · exact h.ge
  · exact h'.2
theorem TRy.same (h : TRy N0 w c t r xs) (ht : w'.heap[t]? = w.heap[t]?) (hr : w'.heap[r]? = w.heap[r]?) : TRy N0 w' c t r xs := by
  obtain ⟨v, e, o, hv⟩ := h.c1
  refine ⟨(World.cell?_of_block (w := w) ht).trans h.c0, ⟨v, (World.cell?_of_block (w := w) ht).trans e, ⟨o.1, ?_⟩, hv⟩, h.tg.blk ht, h.ge, fun j => (World.frozen?_of_block (w := w) (a := ⟨t, j, none⟩) ht).trans (h.fz j)⟩
  rcases o.2 with h2 | ⟨g, cap, cur, h1, h2, h3, h4⟩
  · exact Or.inl h2
  · refine Or.inr ⟨g, cap, cur, h1, h2, ?_, h4⟩
    rcases hv with ⟨e1, _⟩ | ⟨cp, e1⟩
    · rw [e1] at h1; cases h1
    · rw [e1] at h1
      simp only [Value.slice.injEq, Option.some.injEq, Addr.mk.injEq] at h1
      obtain ⟨⟨rfl, _⟩, _⟩ := h1
      exact hr.trans h3
theorem TRy.b (h : TRy N0 w c t r xs) (hb : Below w.heap.size w w') : TRy N0 w' c t r xs := h.same (hb.block _ h.tg.lt) (hb.block _ h.rlt)
/-- Where none of a depot's kinds turn. -/
theorem TRy.chg {ts : List (Option TypeId)} {N : Nat} (h : TRy N0 w c t r xs) (hc : Chg ts N w w') (h1 : some 286 ∉ ts) (h2 : some 34 ∉ ts) : TRy N0 w' c t r xs := by
  refine h.same (hc.same h.tg h1) ?_
  rcases h.row with rfl | h'
  · exact hc.same h.tg h1
  · exact hc.same h'.1 h2
end
/-- All trays of a depot: those of workers, those of the pile. -/
def trs (ws : List (Nat × Nat)) (pl : List Nat) : List Nat := ws.flatMap (fun x => [x.1, x.2]) ++ pl
/-- Pairs of pointers, two cells each. -/
def flatP (ws : List (Nat × Nat)) : List Value := ws.flatMap fun x => [ptr x.1, ptr x.2]
theorem flatP_get : ∀ (l : List (Nat × Nat)) (i : Nat) (x : Nat × Nat), l[i]? = some x → (flatP l)[i * 2]? = some (ptr x.1) ∧ (flatP l)[i * 2 + 1]? = some (ptr x.2)
  | [], i, x, h => by simp at h
  | y :: l, 0, x, h => by
    simp only [List.getElem?_cons_zero, Option.some.injEq] at h
    subst h
    exact ⟨rfl, rfl⟩
  | y :: l, i + 1, x, h => by
    have := flatP_get l i x (by simpa using h)
    have e : flatP (y :: l) = [ptr y.1, ptr y.2] ++ flatP l := rfl
    rw [e, show (i + 1) * 2 = i * 2 + 2 from by omega, show i * 2 + 2 + 1 = (i * 2 + 1) + 2 from by omega]
    simpa using this
/-- Trays of a cache in block c, told by their blocks; U: others' rows. -/
structure TS (N0 : Nat) (U : Nat → Prop) (w : World) (c mb q : Nat) (f : Int → Int → Option Nat) (L : List Nat) (rb : Nat → Nat) (ct : Nat → List Bl) : Prop where
  nd : L.Nodup
  tr : ∀ t ∈ L, TRy N0 w c t (rb t) (ct t)
  rd : ∀ t ∈ L, ∀ u ∈ L, t ≠ u → rb t ≠ rb u
  ru : ∀ t ∈ L, ¬ U (rb t)
  ml : Ml w mb q f
  mg : N0 ≤ mb
  lf : ∀ a b t, f a b = some t ↔ t ∈ L ∧ (a, b) ∈ ct t
  cn : ∀ t ∈ L, (ct t).Nodup ∧ (ct t).length ≤ 4 ∧ ∀ o ∈ ct t, W2 o.1 o.2
/-- A depot's own blocks: its workers' trays in block g. -/
structure DB (N0 : Nat) (w : World) (c d g : Nat) (ws : List (Nat × Nat)) (pl : List Nat) : Prop where
  d0 : w.cell? ⟨d, 0, none⟩ = some (ptr c)
  d1 : ∃ cp, w.cell? ⟨d, 1, none⟩ = some (.slice (some ⟨g, 0, none⟩) ws.length cp) ∧ w.ownsRow N0 177 2 (.slice (some ⟨g, 0, none⟩) ws.length cp) ws.length (flatP ws)
  d2 : ∃ p cp, w.cell? ⟨d, 2, none⟩ = some (.slice p pl.length cp) ∧ w.ownsRow N0 175 1 (.slice p pl.length cp) pl.length (ptrl pl)
  tg : Tag w d 182
  ge : N0 ≤ d
  fz : ∀ o, w.frozen? ⟨d, o, none⟩ = false
section
variable {N0 : Nat} {U : Nat → Prop} {w w' : World} {c d g mb q : Nat} {f : Int → Int → Option Nat} {ws : List (Nat × Nat)} {pl : List Nat} {L : List Nat} {rb : Nat → Nat} {ct : Nat → List Bl}
theorem own_chg {b e size n : Nat} {v : Value} {xs : List Value} (h : w.ownsRow b e size v n xs) {ts : List (Option TypeId)} {N : Nat} (hc : Chg ts N w w') (hn : some e ∉ ts) : w'.ownsRow b e size v n xs := own_same h (hc.toSame (us := [e]) (by simpa using hn)) (by simp)
theorem DB.same (h : DB N0 w c d g ws pl) (hs : Same [182, 175, 177] w w') : DB N0 w' c d g ws pl := by
  obtain ⟨cp, e1, o1⟩ := h.d1
  obtain ⟨p, cp2, e2, o2⟩ := h.d2
  have hc := fun j => cell_same hs (by simp) h.tg j
  exact ⟨(hc 0).trans h.d0, ⟨cp, (hc 1).trans e1, own_same o1 hs (by simp)⟩, ⟨p, cp2, (hc 2).trans e2, own_same o2 hs (by simp)⟩, tag_same hs (by simp) h.tg, h.ge, fun o => (World.frozen?_of_block (w := w) (a := ⟨d, o, none⟩) (hs d 182 (by simp) h.tg)).trans (h.fz o)⟩
theorem DB.b (h : DB N0 w c d g ws pl) (hb : Below w.heap.size w w') : DB N0 w' c d g ws pl := h.same (same_below hb)
theorem TS.same (h : TS N0 U w c mb q f L rb ct) (ht : ∀ t ∈ L, w'.heap[t]? = w.heap[t]?) (hm : w'.heap[mb]? = w.heap[mb]?) (hr : ∀ t ∈ L, w'.heap[rb t]? = w.heap[rb t]?) : TS N0 U w' c mb q f L rb ct :=
  ⟨h.nd, fun t hL => (h.tr t hL).same (ht t hL) (hr t hL), h.rd, h.ru, h.ml.blk hm, h.mg, h.lf, h.cn⟩
theorem TS.b (h : TS N0 U w c mb q f L rb ct) (hb : Below w.heap.size w w') : TS N0 U w' c mb q f L rb ct := h.same (fun t ht => hb.block _ (h.tr t ht).tg.lt) (hb.block _ h.ml.lt) (fun t ht => hb.block _ (h.tr t ht).rlt)
/-- Where none of the trays' kinds turn, and the map doesn't. -/
theorem TS.chg (h : TS N0 U w c mb q f L rb ct) {ts : List (Option TypeId)} {N : Nat} (hc : Chg ts N w w') (h1 : some 286 ∉ ts) (h2 : some 34 ∉ ts) (hm : w'.heap[mb]? = w.heap[mb]?) : TS N0 U w' c mb q f L rb ct := by
  refine h.same (fun t ht => hc.same (h.tr t ht).tg h1) hm (fun t ht => ?_)
  rcases (h.tr t ht).row with e | h'
  · rw [e]; exact hc.same (h.tr t ht).tg h1
  · exact hc.same h'.1 h2
theorem TS.chgN (h : TS N0 U w c mb q f L rb ct) {ts : List (Option TypeId)} {N : Nat} (hc : Chg ts N w w') (h1 : some 286 ∉ ts) (h2 : some 34 ∉ ts) (h3 : none ∉ ts) : TS N0 U w' c mb q f L rb ct := by
  refine h.chg hc h1 h2 ?_
  rcases hc.blk mb h.ml.lt with e | ⟨_, o, e1, e2⟩
  · exact e
  · obtain ⟨o', e3, e4⟩ := h.ml.kindless
    rw [e1] at e3
    rw [Option.some.inj e3, e4] at e2
    exact absurd e2 h3
/-- Where others' rows turn. -/
theorem TS.turnU (h : TS N0 U w c mb q f L rb ct) (hs : ∀ k, k < w.heap.size → ¬ U k → w'.heap[k]? = w.heap[k]?) (hu : ∀ k, U k → Tag w k 34) : TS N0 U w' c mb q f L rb ct := by
  refine h.same (fun t ht => hs t (h.tr t ht).tg.lt (fun hU => (h.tr t ht).tg.ne (hu t hU) (by decide) rfl)) (hs mb h.ml.lt (fun hU => ?_)) (fun t ht => hs _ (h.tr t ht).rlt (h.ru t ht))
  obtain ⟨o, h1, h2⟩ := h.ml.kindless
  obtain ⟨cur, fz, h3⟩ := hu mb hU
  rw [h1] at h3
  rw [Option.some.inj h3] at h2
  cases h2
/-- Others have other rows. -/
theorem TS.others (h : TS N0 U w c mb q f L rb ct) {V : Nat → Prop} (hv : ∀ t ∈ L, V (rb t) → U (rb t)) : TS N0 V w c mb q f L rb ct := ⟨h.nd, h.tr, h.rd, fun t ht hV => h.ru t ht (hv t ht hV), h.ml, h.mg, h.lf, h.cn⟩
/-- Fewer trays: those that go are empty. -/
theorem TS.sub (h : TS N0 U w c mb q f L rb ct) {L' : List Nat} (hn : L'.Nodup) (hs : ∀ t ∈ L', t ∈ L) (he : ∀ t ∈ L, t ∉ L' → ct t = []) : TS N0 U w c mb q f L' rb ct :=
  ⟨hn, fun t ht => h.tr t (hs t ht), fun t ht u hu => h.rd t (hs t ht) u (hs u hu), fun t ht => h.ru t (hs t ht), h.ml, h.mg, fun a b t => by
    rw [h.lf]
    refine ⟨fun ⟨h1, h2⟩ => ⟨?_, h2⟩, fun ⟨h1, h2⟩ => ⟨hs t h1, h2⟩⟩
    by_cases h3 : t ∈ L'
    · exact h3
    · exact absurd h2 (by rw [he t h1 h3]; simp), fun t ht => h.cn t (hs t ht)⟩
def upN {α : Type} (f : Nat → α) (t : Nat) (v : α) : Nat → α := fun x => if x = t then v else f x
theorem upN_at {α : Type} (f : Nat → α) (t : Nat) (v : α) : upN f t v t = v := by simp [upN]
theorem upN_ne {α : Type} {f : Nat → α} {t x : Nat} (h : x ≠ t) (v : α) : upN f t v x = f x := by simp [upN, h]
/-- A new tray beside. -/
theorem TS.add (h : TS N0 U w c mb q f L rb ct) {t : Nat} (hn : t ∉ L) (hT : TRy N0 w c t t []) (hr : ∀ u ∈ L, rb u ≠ t) (hu : ¬ U t) : TS N0 U w c mb q f (t :: L) (upN rb t t) (upN ct t []) := by
  have hne : ∀ u ∈ L, u ≠ t := fun u hu e => hn (e ▸ hu)
  refine ⟨List.nodup_cons.2 ⟨hn, h.nd⟩, fun u hu => ?_, fun u hu v hv hne' => ?_, fun u hu' => ?_, h.ml, h.mg, fun a b u => ?_, fun u hu => ?_⟩
  · rcases List.mem_cons.1 hu with rfl | hu
    · rw [upN_at, upN_at]; exact hT
    · rw [upN_ne (hne u hu), upN_ne (hne u hu)]; exact h.tr u hu
  · rcases List.mem_cons.1 hu with e | hu
    · rcases List.mem_cons.1 hv with e2 | hv
      · exact absurd (e.trans e2.symm) hne'
      · rw [e, upN_at, upN_ne (hne v hv)]; exact (hr v hv).symm
    · rcases List.mem_cons.1 hv with e2 | hv
      · rw [e2, upN_at, upN_ne (hne u hu)]; exact hr u hu
      · rw [upN_ne (hne u hu), upN_ne (hne v hv)]; exact h.rd u hu v hv hne'
  · rcases List.mem_cons.1 hu' with rfl | hu'
    · rw [upN_at]; exact hu
    · rw [upN_ne (hne u hu')]; exact h.ru u hu'
  · rw [h.lf]
    refine ⟨fun ⟨h1, h2⟩ => ⟨List.mem_cons_of_mem _ h1, by rw [upN_ne (hne u h1)]; exact h2⟩, fun ⟨h1, h2⟩ => ?_⟩
    rcases List.mem_cons.1 h1 with rfl | h1
    · rw [upN_at] at h2; cases h2
    · rw [upN_ne (hne u h1)] at h2
      exact ⟨h1, h2⟩
  · rcases List.mem_cons.1 hu with rfl | hu
    · rw [upN_at]; exact ⟨List.nodup_nil, by simp, fun o ho => by cases ho⟩
    · rw [upN_ne (hne u hu)]; exact h.cn u hu
end
end Mg
end Go.Proofs.YtcbmfakjfoggaaaGreatDoor
namespace Go.Proofs.YtcbmfakjfoggaaaGreatDoor
open Go.RowKit
namespace Sb
open Fr Bd Zn Dz
def orv (a b : Int) : Int := if a = 0 then b else a
set_option maxHeartbeats 2000000 in
theorem or_ok (vb c : Nat) (a b : Int) (w : World) (h0 : w.cell? ⟨vb, 0, none⟩ = some (.int .i64 a)) (h1 : w.cell? ⟨vb, 1, none⟩ = some (.int .i64 b)) :
    Calls Tryz.prog 233 #[.slice (some ⟨vb, 0, none⟩) 2 c] w fun ev w' => ev = .returned (.int .i64 (orv a b)) ∧ w' = w := by
  unfold orv
  go_enter Tryz.func233, Tryz.ntmps233
  go_wp2_with fail
  go_loopw [8] (fun s wr => ∃ i : Nat, s = .int .i64 i ∧ i ≤ 2 ∧ wr = w ∧ (1 ≤ i → a = 0) ∧ (2 ≤ i → b = 0)) (fun s _ => 2 - (RowKit.intOf s).toNat)
  case atStart => exact ⟨0, rfl, by omega, rfl, by omega, by omega⟩
  case round =>
    obtain ⟨i, rfl, hi, rfl, ha, hb⟩ := hrel
    rcases (show i = 0 ∨ i = 1 ∨ i = 2 by omega) with rfl | rfl | rfl
    · by_cases h : a = 0
      · subst h
        go_wp2
        go_roundw
        case rel => exact ⟨1, by go_num, by omega, by simp⟩
        case measure => simp [RowKit.intOf]
      · have d : (a != 0) = true := by simpa using h
        go_wp2
        go_ret
        exact ⟨by simp, rfl⟩
    · have ha := ha (by omega)
      subst ha
      by_cases h : b = 0
      · subst h
        go_wp2
        go_roundw
        case rel => exact ⟨2, by go_num, by omega, by simp⟩
        case measure => simp [RowKit.intOf]
      · have d : (b != 0) = true := by simpa using h
        go_wp2
        go_ret
        exact ⟨by simp, rfl⟩
    · have ha := ha (by omega)
      have hb := hb (by omega)
      subst ha hb
      go_wp2
      go_ret
      exact ⟨by simp, rfl⟩
set_option maxRecDepth 100000 in
set_option maxHeartbeats 4000000 in
theorem addc_ok (b : Nat) (n0 a0 x a o : Int) (w : World) (h0 : w.cell? ⟨b, 0, none⟩ = some (.int .i64 n0)) (h1 : w.cell? ⟨b, 1, none⟩ = some (.int .i64 a0)) :
    Calls Tryz.prog 232 (#[ptr b, plV x a o] ++ #[]) w fun ev w' => ev = .returned (.int .i64 (orv (cmpv n0 x) (cmpv a0 a))) ∧ Below w.heap.size w w' := by
  have hb := World.block_lt_of_cell? w _ h0
  simp only at hb
  have F1 := ballo (Below.refl w.heap.size w) (plO x a o)
  have k0 := (F1.cell (p := ⟨b, 0, none⟩) hb).trans h0
  have k1 := (F1.cell (p := ⟨b, 1, none⟩) hb).trans h1
  have q0 := World.cell?_alloc_new w #[.int .i64 x, .int .i64 a, .int .i64 o] 293 0
  have q1 := World.cell?_alloc_new w #[.int .i64 x, .int .i64 a, .int .i64 o] 293 1
  simp only [List.getElem?_toArray, List.getElem?_cons_zero, List.getElem?_cons_succ] at q0 q1
  have HC := hide compare_ok
  have HO := hide or_ok
  clear h0 h1
  have HB := hide F1
  clear F1
  unfold ptr plV plO at *
  rw [Array.append_empty]
  go_enter Tryz.func232, Tryz.ntmps232
  go_upto_region 1 with (fail)
  generalize hW : w.alloc (.cells #[.int .i64 x, .int .i64 a, .int .i64 o] 293) = W at *
  generalize hp : w.heap.size = pb at *
  go_region_held3 (fun w' => w'.cell? ⟨b, 0, none⟩ = some (.int .i64 n0) ∧ w'.cell? ⟨b, 1, none⟩ = some (.int .i64 a0) ∧ w'.cell? ⟨pb, 0, none⟩ = some (.int .i64 x) ∧ w'.cell? ⟨pb, 1, none⟩ = some (.int .i64 a)) (go_keep) ((first | (go_at_call 199; refine ((unhide HC) _ _ _).mono ?_; rintro ev w3 ⟨rfl, rfl⟩) | (go_at_call 233; refine ((unhide HO) _ _ (cmpv n0 x) (cmpv a0 a) _ (World.cell?_alloc_new _ _ _ 0) (World.cell?_alloc_new _ _ _ 1)).mono ?_; rintro ev w3 ⟨rfl, rfl⟩)))
  go_wp2
  go_ret
  exact ⟨rfl, (ballo (by rw [← hp] at HB; exact unhide HB) _).drew⟩
end Sb
end Go.Proofs.YtcbmfakjfoggaaaGreatDoor
namespace Go.Proofs.YtcbmfakjfoggaaaGreatDoor
open Go.RowKit
namespace Sb
open Fr Bd Zn Dz
/-- A slab against a place. -/
def cm (s : Sl) (x a : Int) : Int := orv (cmpv s.nd x) (cmpv s.at_ a)
/-- Slabs that lie in a slice of pointers. -/
def Slabs (w : World) (q : Option Addr) (n : Nat) (B : Nat → Nat) (X : Nat → Sl) : Prop := ∀ i, i < n → ∃ g, q = some ⟨g, 0, none⟩ ∧ g < w.heap.size ∧ w.cell? ⟨g, i, none⟩ = some (ptr (B i)) ∧ B i < w.heap.size ∧ w.cell? ⟨B i, 0, none⟩ = some (.int .i64 (X i).nd) ∧ w.cell? ⟨B i, 1, none⟩ = some (.int .i64 (X i).at_)
theorem Slabs.b {w w' : World} {q : Option Addr} {n : Nat} {B : Nat → Nat} {X : Nat → Sl} (h : Slabs w q n B X) (hb : Below w.heap.size w w') : Slabs w' q n B X := fun i hi => by
  obtain ⟨g, e, h1, h2, h3, h4, h5⟩ := h i hi
  exact ⟨g, e, Nat.lt_of_lt_of_le h1 hb.size, (hb.cell (p := ⟨g, i, none⟩) h1).trans h2, Nat.lt_of_lt_of_le h3 hb.size, (hb.cell (p := ⟨B i, 0, none⟩) h3).trans h4, (hb.cell (p := ⟨B i, 1, none⟩) h3).trans h5⟩
theorem addc2_ok (b : Nat) (s : Sl) (x a o : Int) (w : World) (h0 : w.cell? ⟨b, 0, none⟩ = some (.int .i64 s.nd)) (h1 : w.cell? ⟨b, 1, none⟩ = some (.int .i64 s.at_)) :
    Calls Tryz.prog 232 (#[.pointer (some ⟨b, 0, none⟩), .agg #[.int .i64 x, .int .i64 a, .int .i64 o]] ++ #[]) w fun ev w' => ev = .returned (.int .i64 (cm s x a)) ∧ Below w.heap.size w w' := addc_ok b s.nd s.at_ x a o w h0 h1
/-- Where a place belongs. -/
def BsR (x a : Int) (X : Nat → Sl) (n : Nat) (w : World) (ev : Ending) (w' : World) : Prop := ∃ (k : Nat) (f : Bool), ev = .returned (.tuple #[.int .i64 k, .bool f]) ∧ (k ≤ n ∧ (∀ t, t < k → cm (X t) x a < 0) ∧ ∀ t, k ≤ t → t < n → 0 ≤ cm (X t) x a) ∧ Below w.heap.size w w'
set_option maxRecDepth 100000 in
set_option maxHeartbeats 8000000 in
theorem bs_ok (q : Option Addr) (n c : Nat) (B : Nat → Nat) (X : Nat → Sl) (x a o : Int) (w : World) (hz : Slabs w q n B X) (hn : n ≤ 100000) (hmono : ∀ i j, i ≤ j → j < n → cm (X j) x a < 0 → cm (X i) x a < 0) :
    Calls Tryz.prog 231 #[.slice q n c, plV x a o, .func (.func 232) #[] #[]] w fun ev w' => BsR x a X n w ev w' := by
  have F1 := ballo (Below.refl w.heap.size w) (plO x a o)
  have q0 := World.cell?_alloc_new w #[.int .i64 x, .int .i64 a, .int .i64 o] 293 0
  have q1 := World.cell?_alloc_new w #[.int .i64 x, .int .i64 a, .int .i64 o] 293 1
  have q2 := World.cell?_alloc_new w #[.int .i64 x, .int .i64 a, .int .i64 o] 293 2
  simp only [List.getElem?_toArray, List.getElem?_cons_zero, List.getElem?_cons_succ] at q0 q1 q2
  have HZ := hide hz
  have HM := hide hmono
  have HF := hide F1
  clear hz hmono F1
  have hsz : (w.alloc (.cells #[.int .i64 x, .int .i64 a, .int .i64 o] 293)).heap.size = w.heap.size + 1 := by simp
  unfold plV plO at *
  go_enter Tryz.func231, Tryz.ntmps231
  go_upto_region 1 with (fail)
  generalize w.alloc (.cells #[.int .i64 x, .int .i64 a, .int .i64 o] 293) = W at *
  have HQ : Hid (∀ W', Below w.heap.size w W' → Below W.heap.size W W' → W'.cell? ⟨w.heap.size, 0, none⟩ = some (.int .i64 x) ∧ W'.cell? ⟨w.heap.size, 1, none⟩ = some (.int .i64 a) ∧ W'.cell? ⟨w.heap.size, 2, none⟩ = some (.int .i64 o)) := fun W' _ hb =>
    ⟨(hb.cell (p := ⟨w.heap.size, 0, none⟩) (by rw [hsz]; simp)).trans q0, (hb.cell (p := ⟨w.heap.size, 1, none⟩) (by rw [hsz]; simp)).trans q1, (hb.cell (p := ⟨w.heap.size, 2, none⟩) (by rw [hsz]; simp)).trans q2⟩
  clear q0 q1 q2
  go_wp2_with fail
  go_loopg [9, 10] n (fun kx s9 s10 wr => ∃ lo hi : Nat, s9 = .int .i64 lo ∧ s10 = .int .i64 hi ∧ lo ≤ hi ∧ hi ≤ n ∧ hi - lo ≤ kx ∧ Hid (Below W.heap.size W wr) ∧ Hid ((∀ t, t < lo → cm (X t) x a < 0) ∧ (∀ t, hi ≤ t → t < n → 0 ≤ cm (X t) x a)))
  case atStart => exact ⟨0, n, rfl, rfl, Nat.zero_le _, Nat.le_refl _, by omega, Below.refl _ _, fun t ht => absurd ht (Nat.not_lt_zero _), fun t h1 h2 => by omega⟩
  case round =>
    obtain ⟨lo, hi, rfl, rfl, hlh, hin, hg, S1, I⟩ := hrel
    by_cases hlt : lo < hi
    · obtain ⟨g, rfl, hgl, c0, hBl, c1, c2⟩ := (unhide HZ) ((lo + hi) / 2) (by omega)
      have E : Below w.heap.size w wr := btr (unhide HF) (unhide S1)
      obtain ⟨b0, b1, b2⟩ := (unhide HQ) wr E (unhide S1)
      have HA := hide (fun w1 (hb : Below wr.heap.size wr w1) => addc2_ok (B ((lo + hi) / 2)) (X ((lo + hi) / 2)) x a o w1 ((hb.cell (p := ⟨B ((lo + hi) / 2), 0, none⟩) (Nat.lt_of_lt_of_le hBl E.size)).trans ((E.cell (p := ⟨B ((lo + hi) / 2), 0, none⟩) hBl).trans c1)) ((hb.cell (p := ⟨B ((lo + hi) / 2), 1, none⟩) (Nat.lt_of_lt_of_le hBl E.size)).trans ((E.cell (p := ⟨B ((lo + hi) / 2), 1, none⟩) hBl).trans c2)))
      have e0 := (E.cell (p := ⟨g, (lo + hi) / 2, none⟩) hgl).trans c0
      have hgr : g < wr.heap.size := Nat.lt_of_lt_of_le hgl E.size
      have hbr : w.heap.size < wr.heap.size := by have := (unhide S1).size; rw [hsz] at this; omega
      have HK := hide (fun w1 (hb : Below wr.heap.size wr w1) => (⟨(hb.cell (p := ⟨g, (lo + hi) / 2, none⟩) hgr).trans e0, (hb.cell (p := ⟨w.heap.size, 0, none⟩) hbr).trans b0, (hb.cell (p := ⟨w.heap.size, 1, none⟩) hbr).trans b1, (hb.cell (p := ⟨w.heap.size, 2, none⟩) hbr).trans b2⟩ : w1.cell? ⟨g, (lo + hi) / 2, none⟩ = some (ptr (B ((lo + hi) / 2))) ∧ w1.cell? ⟨w.heap.size, 0, none⟩ = some (.int .i64 x) ∧ w1.cell? ⟨w.heap.size, 1, none⟩ = some (.int .i64 a) ∧ w1.cell? ⟨w.heap.size, 2, none⟩ = some (.int .i64 o)))
      clear c0 c1 c2 hBl
      have hmid1 : ((lo : Int) + (hi : Int)) / 2 = (((lo + hi) / 2 : Nat) : Int) := by omega
      have hm0 : (0 : Int) ≤ (((lo + hi) / 2 : Nat) : Int) := by omega
      have hm1 : ((((lo + hi) / 2 : Nat) : Int)) < n := by omega
      have hmlo : lo ≤ (lo + hi) / 2 := by omega
      have hmhi : (lo + hi) / 2 < hi := by omega
      generalize hmd : (lo + hi) / 2 = md at *
      generalize hy : cm (X md) x a = y at *
      generalize B md = bm at *
      have HY := hide hy
      have HMD := hide hmd
      clear hy hmd
      unfold ptr at *
      go_wp2_with fail
      go_region_held3 (fun w' => w'.cell? ⟨g, md, none⟩ = some (.pointer (some ⟨bm, 0, none⟩)) ∧ w'.cell? ⟨w.heap.size, 0, none⟩ = some (.int .i64 x) ∧ w'.cell? ⟨w.heap.size, 1, none⟩ = some (.int .i64 a) ∧ w'.cell? ⟨w.heap.size, 2, none⟩ = some (.int .i64 o)) ((first | (go_keep; done) | (exact (unhide HK) _ (by assumption)))) ((go_at_call 232; refine ((unhide HA) _ (drw wr)).mono ?_; rintro ev w3 ⟨rfl, b3⟩; have f3 : Below wr.heap.size wr w3 := bd b3))
      have S3 := hide (btr (unhide S1) f3)
      clear HA HK b0 b1 b2 e0 E b3 f3
      by_cases hyx : y < 0
      · have I2 : Hid ((∀ t, t < md + 1 → cm (X t) x a < 0) ∧ (∀ t, hi ≤ t → t < n → 0 ≤ cm (X t) x a)) := ⟨fun t ht => (unhide HM) t md (by omega) (by omega) (by rw [unhide HY]; exact hyx), (unhide I).2⟩
        go_wp2
        go_roundg (hi - (md + 1))
        case measure => omega
        case rel => exact ⟨md + 1, hi, by go_num, rfl, by omega, hin, Nat.le_refl _, S3, I2⟩
      · have I2 : Hid ((∀ t, t < lo → cm (X t) x a < 0) ∧ (∀ t, md ≤ t → t < n → 0 ≤ cm (X t) x a)) := ⟨(unhide I).1, fun t ht htn => Int.not_lt.1 fun hc => by have := (unhide HM) md t ht htn hc; rw [unhide HY] at this; exact hyx this⟩
        go_wp2
        go_roundg (md - lo)
        case measure => omega
        case rel => exact ⟨lo, md, rfl, rfl, by omega, by omega, Nat.le_refl _, S3, I2⟩
    · obtain rfl : hi = lo := by omega
      have RES : Hid (∀ (f : Bool) w', Below wr.heap.size wr w' → BsR x a X n w (.returned (.tuple #[.int .i64 (hi : Int), .bool f])) w') := fun f w' hb => ⟨hi, f, rfl, ⟨hin, (unhide I).1, (unhide I).2⟩, btr (btr (unhide HF) (unhide S1)) hb⟩
      by_cases hn' : hi < n
      · obtain ⟨g, rfl, hgl, c0, hBl, c1, c2⟩ := (unhide HZ) hi hn'
        have E : Below w.heap.size w wr := btr (unhide HF) (unhide S1)
        obtain ⟨b0, b1, b2⟩ := (unhide HQ) wr E (unhide S1)
        have HA := hide (fun w1 (hb : Below wr.heap.size wr w1) => addc2_ok (B hi) (X hi) x a o w1 ((hb.cell (p := ⟨B hi, 0, none⟩) (Nat.lt_of_lt_of_le hBl E.size)).trans ((E.cell (p := ⟨B hi, 0, none⟩) hBl).trans c1)) ((hb.cell (p := ⟨B hi, 1, none⟩) (Nat.lt_of_lt_of_le hBl E.size)).trans ((E.cell (p := ⟨B hi, 1, none⟩) hBl).trans c2)))
        have e0 := (E.cell (p := ⟨g, hi, none⟩) hgl).trans c0
        have hgr : g < wr.heap.size := Nat.lt_of_lt_of_le hgl E.size
        have hbr : w.heap.size < wr.heap.size := by have := (unhide S1).size; rw [hsz] at this; omega
        have HK := hide (fun w1 (hb : Below wr.heap.size wr w1) => (⟨(hb.cell (p := ⟨g, hi, none⟩) hgr).trans e0, (hb.cell (p := ⟨w.heap.size, 0, none⟩) hbr).trans b0, (hb.cell (p := ⟨w.heap.size, 1, none⟩) hbr).trans b1, (hb.cell (p := ⟨w.heap.size, 2, none⟩) hbr).trans b2⟩ : w1.cell? ⟨g, hi, none⟩ = some (ptr (B hi)) ∧ w1.cell? ⟨w.heap.size, 0, none⟩ = some (.int .i64 x) ∧ w1.cell? ⟨w.heap.size, 1, none⟩ = some (.int .i64 a) ∧ w1.cell? ⟨w.heap.size, 2, none⟩ = some (.int .i64 o)))
        clear c0 c1 c2 hBl
        have hm0 : (0 : Int) ≤ (hi : Int) := by omega
        have hm1 : (hi : Int) < n := by omega
        generalize cm (X hi) x a = y at *
        generalize B hi = bm at *
        unfold ptr at *
        go_wp2_with fail
        go_region_held3 (fun w' => w'.cell? ⟨g, hi, none⟩ = some (.pointer (some ⟨bm, 0, none⟩)) ∧ w'.cell? ⟨w.heap.size, 0, none⟩ = some (.int .i64 x) ∧ w'.cell? ⟨w.heap.size, 1, none⟩ = some (.int .i64 a) ∧ w'.cell? ⟨w.heap.size, 2, none⟩ = some (.int .i64 o)) ((first | (go_keep; done) | (exact (unhide HK) _ (by assumption)))) ((go_at_call 232; refine ((unhide HA) _ (drw wr)).mono ?_; rintro ev w3 ⟨rfl, b3⟩; have f3 : Below wr.heap.size wr w3 := bd b3))
        go_wp2
        go_ret2
        exact (unhide RES) _ _ f3
      · have hm1 : decide ((hi : Int) < n) = false := by simp; omega
        go_wp2_with fail
        go_quiet (fail)
        go_wp2
        go_ret2
        exact (unhide RES) _ _ (bdN (Below.refl _ _) _)
end Sb
end Go.Proofs.YtcbmfakjfoggaaaGreatDoor
