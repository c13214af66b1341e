/- What lies on trays, as a map of objects in memory · Trays and a depot in memory · A tray's Count; a new tray; a depot's worker; a pair's swap. -/
import Derived.Test.YtfefehkapffljaaGreatDoorKZ
import Derived.Test.YtfefehkapffljaaGreatDoorGD
import Derived.Test.YtfefehkapffljaaGreatDoorKC
import Derived.Test.YtfefehkapffljaaGreatDoorMA
import Derived.Laws.OwnMore
import Derived.BigRegion
import Derived.BigQuiet
namespace Go.Proofs.YtfefehkapffljaaGreatDoor
open Go.RowKit Go.Maps
namespace Mg
open Fr Bd Zn Dz Sb
/-- How a pointer to a tray reads. -/
def trE : Value → Option (DataW Unit × List MemPlace)
  | .pointer none => some (.lit (.int .i64 (-1)), [])
  | .pointer (some ⟨b, 0, none⟩) => some (.lit (.int .i64 (b : Int)), [])
  | _ => none
def trV : Option Nat → Value
  | none => .pointer none
  | some b => .pointer (some ⟨b, 0, none⟩)
def trD : Option Nat → DataW Unit
  | none => .lit (.int .i64 (-1))
  | some b => .lit (.int .i64 (b : Int))
theorem trE_V (o : Option Nat) : trE (trV o) = some (trD o, []) := by cases o <;> rfl
theorem trD_inj {o o' : Option Nat} (h : trD o = trD o') : o = o' := by
  cases o <;> cases o' <;> simp only [trD, DataW.lit.injEq, Lit.int.injEq, true_and] at h
  · rfl
  · omega
  · omega
  · rw [show (_ : Nat) = _ from Int.ofNat.inj h]
theorem trE_inv {v : Value} {o : Option Nat} {ps : List MemPlace} (h : trE v = some (trD o, ps)) : v = trV o := by
  unfold trE at h
  split at h
  · simp only [Option.some.injEq, Prod.mk.injEq] at h
    obtain rfl : none = o := trD_inj h.1
    rfl
  · rename_i b
    simp only [Option.some.injEq, Prod.mk.injEq] at h
    obtain rfl : some b = o := trD_inj h.1
    rfl
  · cases h
def okl (a b : Int) : Lit := .string (keyBytes [.int .i64 a, .int .i64 b])
def W2 (a b : Int) : Prop := (Lit.int .i64 a).wf = true ∧ (Lit.int .i64 b).wf = true
theorem okl_inj {a b a' b' : Int} (h : W2 a b) (h' : W2 a' b') (e : okl a b = okl a' b') : a = a' ∧ b = b' := by
  have e2 : keyBytes [.int .i64 a, .int .i64 b] = keyBytes [.int .i64 a', .int .i64 b'] := by simpa [okl] using e
  have := keyBytes_inj (l := [.int .i64 a, .int .i64 b]) (l' := [.int .i64 a', .int .i64 b']) ⟨rfl, rfl, trivial⟩ (fun x hx => by
    simp only [List.mem_cons, List.not_mem_nil, or_false] at hx
    rcases hx with rfl | rfl
    · exact h.1
    · exact h.2) (fun x hx => by
    simp only [List.mem_cons, List.not_mem_nil, or_false] at hx
    rcases hx with rfl | rfl
    · exact h'.1
    · exact h'.2) e2
  simpa using this
def upF (f : Int → Int → Option Nat) (a b : Int) (v : Option Nat) : Int → Int → Option Nat := fun x y => if x = a ∧ y = b then v else f x y
theorem upF_at (f : Int → Int → Option Nat) (a b : Int) (v : Option Nat) : upF f a b v a b = v := by simp [upF]
theorem upF_ne {f : Int → Int → Option Nat} {a b x y : Int} (h : ¬ (x = a ∧ y = b)) (v : Option Nat) : upF f a b v x y = f x y := by simp [upF, h]
/-- The map in block mb says where objects lie; q: no fewer than it has entries. -/
structure Ml (w : World) (mb q : Nat) (f : Int → Int → Option Nat) : Prop where
  own : ∃ D, w.ownsMap (H := Unit) Tryz.prog 42 trE mb q D ∧ ∀ a b, W2 a b → D.atKey (okl a b) (trD none) = trD (f a b)
section
variable {w w' : World} {mb q : Nat} {f : Int → Int → Option Nat}
theorem Ml.lt (h : Ml w mb q f) : mb < w.heap.size := by
  obtain ⟨D, h1, _⟩ := h.own
  exact h1.lt
theorem Ml.blk (h : Ml w mb q f) (hb : w'.heap[mb]? = w.heap[mb]?) : Ml w' mb q f := by
  obtain ⟨D, ⟨es, clock, h1, h2⟩, h3⟩ := h.own
  exact ⟨D, ⟨es, clock, hb.trans h1, h2⟩, h3⟩
theorem Ml.b (h : Ml w mb q f) (hb : Below w.heap.size w w') : Ml w' mb q f := h.blk (hb.block _ h.lt)
theorem Ml.mono (h : Ml w mb q f) {q' : Nat} (hq : q ≤ q') : Ml w mb q' f := by
  obtain ⟨D, h1, h2⟩ := h.own
  exact ⟨D, h1.mono hq, h2⟩
theorem Ml.look (h : Ml w mb q f) {a b : Int} (hw : W2 a b) : (Instr.lookup 111 (.map (some mb)) (.agg #[.int .i64 a, .int .i64 b]) false).run Tryz.prog w = .ok (trV (f a b)) w := by
  obtain ⟨D, h1, h2⟩ := h.own
  obtain ⟨v, ps, hr, hv⟩ := h1.lookup keyed42 Tryz.underlying111 (zero165 w) (trE_V none) (key42 hw.1 hw.2)
  rw [show DataW.atKey D (Lit.string (keyBytes [.int .i64 a, .int .i64 b])) (trD none) = trD (f a b) from h2 a b hw] at hv
  rw [trE_inv hv] at hr
  exact hr
theorem Ml.lookN (h : Ml w mb q f) {a b : Int} (hw : W2 a b) (n : Nat) : (Instr.lookup 111 (.map (some mb)) (.agg #[.int .i64 a, .int .i64 b]) false).run Tryz.prog (w.drewN n) = .ok (trV (f a b)) (w.drewN n) := (h.b (bdN (Below.refl _ _) n)).look hw
theorem Ml.made (w : World) : Ml (w.alloc (.map #[] 0)) w.heap.size 0 (fun _ _ => none) := ⟨.map [], World.ownsMap_made w Tryz.prog 42 trE, fun _ _ _ => rfl⟩
theorem Ml.empty (hb : w.heap[mb]? = some (.map #[] 0)) : Ml w mb 0 (fun _ _ => none) := ⟨.map [], ⟨#[], 0, hb, ⟨by simp, MapKept.stamped_empty 0, by simp⟩, Nat.le_refl _, rfl⟩, fun _ _ _ => rfl⟩
/-- An object is laid. -/
theorem Ml.store (h : Ml w mb q f) (hq : q < maxLen) {a b : Int} (hw : W2 a b) (t : Option Nat) : ∃ w', (Instr.mapUpdate 111 (.map (some mb)) (.agg #[.int .i64 a, .int .i64 b]) (trV t)).run Tryz.prog w = .ok () w' ∧ Ml w' mb (q + 1) (upF f a b t) ∧ Kept mb mb w w' := by
  obtain ⟨D, h1, h2⟩ := h.own
  obtain ⟨w', hr, h3, h4⟩ := h1.store keyed42 Tryz.underlying111 hq (key42 hw.1 hw.2) (trE_V t)
  refine ⟨w', hr, ⟨_, h3, fun x y hx => ?_⟩, kept_turned h4 (Or.inl rfl)⟩
  by_cases e : x = a ∧ y = b
  · obtain ⟨rfl, rfl⟩ := e
    rw [upF_at]
    exact atKey_put_same h1.isMap (keyed42.key (key42 hw.1 hw.2)) _ _
  · rw [upF_ne e, ← h2 x y hx]
    exact atKey_put_other (fun e2 => e (okl_inj hx hw e2)) _ _
/-- An object is lifted. -/
theorem Ml.drop (h : Ml w mb q f) {a b : Int} (hw : W2 a b) (ty : TypeId) : ∃ w', (Builtin.delete_ #[111, 42] ty #[.map (some mb), .agg #[.int .i64 a, .int .i64 b]]).run Tryz.prog w = .ok (.tuple #[]) w' ∧ Ml w' mb q (upF f a b none) ∧ Kept mb mb w w' := by
  obtain ⟨D, h1, h2⟩ := h.own
  obtain ⟨w', hr, h3, h4⟩ := h1.drop keyed42 Tryz.underlying111 (key42 hw.1 hw.2) ty
  refine ⟨w', hr, ⟨_, h3, fun x y hx => ?_⟩, kept_turned h4 (Or.inl rfl)⟩
  by_cases e : x = a ∧ y = b
  · obtain ⟨rfl, rfl⟩ := e
    rw [upF_at]
    exact atKey_del_same _
  · rw [upF_ne e, ← h2 x y hx]
    exact atKey_del_other (fun e2 => e (okl_inj hx hw e2)) _
end
end Mg
end Go.Proofs.YtfefehkapffljaaGreatDoor
namespace Go.Proofs.YtfefehkapffljaaGreatDoor
open Go.RowKit Go.Maps
namespace Mg
open Fr Bd Zn Dz Sb
theorem Ml.kindless {w : World} {mb q : Nat} {f : Int → Int → Option Nat} (h : Ml w mb q f) : ∃ o, w.heap[mb]? = some o ∧ kind o = none := by
  obtain ⟨D, ⟨es, clock, h1, _⟩, _⟩ := h.own
  exact ⟨_, h1, rfl⟩
theorem own_sl {w : World} {b e size n : Nat} {v : Value} {xs : List Value} (h : w.ownsRow b e size v n xs) : ∃ p d, v = .slice p n d := by
  rcases h.2 with ⟨rfl, rfl⟩ | ⟨g, cap, cur, rfl, _⟩
  · exact ⟨_, _, rfl⟩
  · exact ⟨_, _, rfl⟩
/-- A tray in block t, its objects in block r (t itself: it has had none). -/
structure TRy (N0 : Nat) (w : World) (c t r : Nat) (xs : List Bl) : Prop where
  c0 : w.cell? ⟨t, 0, none⟩ = some (ptr c)
  c1 : ∃ v, w.cell? ⟨t, 1, none⟩ = some v ∧ w.ownsRow N0 42 2 v xs.length (flat xs) ∧ ((v = .slice none 0 0 ∧ r = t) ∨ ∃ cp, v = .slice (some ⟨r, 0, none⟩) xs.length cp)
  tg : Tag w t 194
  ge : N0 ≤ t
  fz : ∀ o, w.frozen? ⟨t, o, none⟩ = false
section
variable {N0 : Nat} {w w' : World} {c t r : Nat} {xs : List Bl}
theorem TRy.row (h : TRy N0 w c t r xs) : r = t ∨ (Tag w r 42 ∧ N0 ≤ r) := by
  obtain ⟨v, _, o, (⟨_, e⟩ | ⟨cp, rfl⟩)⟩ := h.c1
  · exact Or.inl e
  · rcases o.2 with ⟨e, _⟩ | ⟨g, cap, cur, e, hg, hh, _⟩
    · cases e
    · simp only [Value.slice.injEq, Option.some.injEq, Addr.mk.injEq] at e
      obtain ⟨⟨rfl, _⟩, _⟩ := e
      exact Or.inr ⟨⟨cur, _, hh⟩, hg⟩
theorem TRy.rlt (h : TRy N0 w c t r xs) : r < w.heap.size := by
  rcases h.row with rfl | h'
  · exact h.tg.lt
  · exact h'.1.lt
theorem TRy.rge (h : TRy N0 w c t r xs) : N0 ≤ r := by
  rcases h.row with rfl | h'
  · exact h.ge
  · exact h'.2
theorem TRy.same (h : TRy N0 w c t r xs) (ht : w'.heap[t]? = w.heap[t]?) (hr : w'.heap[r]? = w.heap[r]?) : TRy N0 w' c t r xs := by
  obtain ⟨v, e, o, hv⟩ := h.c1
  refine ⟨(World.cell?_of_block (w := w) ht).trans h.c0, ⟨v, (World.cell?_of_block (w := w) ht).trans e, ⟨o.1, ?_⟩, hv⟩, h.tg.blk ht, h.ge, fun j => (World.frozen?_of_block (w := w) (a := ⟨t, j, none⟩) ht).trans (h.fz j)⟩
  rcases o.2 with h2 | ⟨g, cap, cur, h1, h2, h3, h4⟩
  · exact Or.inl h2
  · refine Or.inr ⟨g, cap, cur, h1, h2, ?_, h4⟩
    rcases hv with ⟨e1, _⟩ | ⟨cp, e1⟩
    · rw [e1] at h1; cases h1
    · rw [e1] at h1
      simp only [Value.slice.injEq, Option.some.injEq, Addr.mk.injEq] at h1
      obtain ⟨⟨rfl, _⟩, _⟩ := h1
      exact hr.trans h3
theorem TRy.b (h : TRy N0 w c t r xs) (hb : Below w.heap.size w w') : TRy N0 w' c t r xs := h.same (hb.block _ h.tg.lt) (hb.block _ h.rlt)
/-- Where none of a depot's kinds turn. -/
theorem TRy.chg {ts : List (Option TypeId)} {N : Nat} (h : TRy N0 w c t r xs) (hc : Chg ts N w w') (h1 : some 194 ∉ ts) (h2 : some 42 ∉ ts) : TRy N0 w' c t r xs := by
  refine h.same (hc.same h.tg h1) ?_
  rcases h.row with rfl | h'
  · exact hc.same h.tg h1
  · exact hc.same h'.1 h2
end
/-- All trays of a depot: those of workers, those of the pile. -/
def trs (ws : List (Nat × Nat)) (pl : List Nat) : List Nat := ws.flatMap (fun x => [x.1, x.2]) ++ pl
/-- Pairs of pointers, two cells each. -/
def flatP (ws : List (Nat × Nat)) : List Value := ws.flatMap fun x => [ptr x.1, ptr x.2]
theorem flatP_length (ws : List (Nat × Nat)) : (flatP ws).length = ws.length * 2 := by
  induction ws with
  | nil => rfl
  | cons x l ih => simp [flatP] at ih ⊢; omega
theorem flatP_get : ∀ (l : List (Nat × Nat)) (i : Nat) (x : Nat × Nat), l[i]? = some x → (flatP l)[i * 2]? = some (ptr x.1) ∧ (flatP l)[i * 2 + 1]? = some (ptr x.2)
  | [], i, x, h => by simp at h
  | y :: l, 0, x, h => by
    simp only [List.getElem?_cons_zero, Option.some.injEq] at h
    subst h
    exact ⟨rfl, rfl⟩
  | y :: l, i + 1, x, h => by
    have := flatP_get l i x (by simpa using h)
    have e : flatP (y :: l) = [ptr y.1, ptr y.2] ++ flatP l := rfl
    rw [e, show (i + 1) * 2 = i * 2 + 2 from by omega, show i * 2 + 2 + 1 = (i * 2 + 1) + 2 from by omega]
    simpa using this
/-- Trays of a cache in block c, told by their blocks; U: others' rows. -/
structure TS (N0 : Nat) (U : Nat → Prop) (w : World) (c mb q : Nat) (f : Int → Int → Option Nat) (L : List Nat) (rb : Nat → Nat) (ct : Nat → List Bl) : Prop where
  nd : L.Nodup
  tr : ∀ t ∈ L, TRy N0 w c t (rb t) (ct t)
  rd : ∀ t ∈ L, ∀ u ∈ L, t ≠ u → rb t ≠ rb u
  ru : ∀ t ∈ L, ¬ U (rb t)
  ml : Ml w mb q f
  mg : N0 ≤ mb
  lf : ∀ a b t, f a b = some t ↔ t ∈ L ∧ (a, b) ∈ ct t
  cn : ∀ t ∈ L, (ct t).Nodup ∧ (ct t).length ≤ 4 ∧ ∀ o ∈ ct t, W2 o.1 o.2
/-- A depot's own blocks: its workers' trays in block g. -/
structure DB (N0 : Nat) (w : World) (c d g : Nat) (ws : List (Nat × Nat)) (pl : List Nat) : Prop where
  d0 : w.cell? ⟨d, 0, none⟩ = some (ptr c)
  d1 : ∃ cp, w.cell? ⟨d, 1, none⟩ = some (.slice (some ⟨g, 0, none⟩) ws.length cp) ∧ w.ownsRow N0 168 2 (.slice (some ⟨g, 0, none⟩) ws.length cp) ws.length (flatP ws)
  d2 : ∃ p cp, w.cell? ⟨d, 2, none⟩ = some (.slice p pl.length cp) ∧ w.ownsRow N0 165 1 (.slice p pl.length cp) pl.length (ptrl pl)
  tg : Tag w d 164
  ge : N0 ≤ d
  fz : ∀ o, w.frozen? ⟨d, o, none⟩ = false
/-- The kinds of a depot's blocks. -/
def DK : List (Option TypeId) := [some 164, some 165, some 168, some 194, some 42]
section
variable {N0 : Nat} {U : Nat → Prop} {w w' : World} {c d g mb q : Nat} {f : Int → Int → Option Nat} {ws : List (Nat × Nat)} {pl : List Nat} {L : List Nat} {rb : Nat → Nat} {ct : Nat → List Bl}
theorem own_chg {b e size n : Nat} {v : Value} {xs : List Value} (h : w.ownsRow b e size v n xs) {ts : List (Option TypeId)} {N : Nat} (hc : Chg ts N w w') (hn : some e ∉ ts) : w'.ownsRow b e size v n xs := own_same h (hc.toSame (us := [e]) (by simpa using hn)) (by simp)
theorem DB.same (h : DB N0 w c d g ws pl) (hs : Same [164, 165, 168] w w') : DB N0 w' c d g ws pl := by
  obtain ⟨cp, e1, o1⟩ := h.d1
  obtain ⟨p, cp2, e2, o2⟩ := h.d2
  have hc := fun j => cell_same hs (by simp) h.tg j
  exact ⟨(hc 0).trans h.d0, ⟨cp, (hc 1).trans e1, own_same o1 hs (by simp)⟩, ⟨p, cp2, (hc 2).trans e2, own_same o2 hs (by simp)⟩, tag_same hs (by simp) h.tg, h.ge, fun o => (World.frozen?_of_block (w := w) (a := ⟨d, o, none⟩) (hs d 164 (by simp) h.tg)).trans (h.fz o)⟩
theorem DB.b (h : DB N0 w c d g ws pl) (hb : Below w.heap.size w w') : DB N0 w' c d g ws pl := h.same (same_below hb)
theorem TS.same (h : TS N0 U w c mb q f L rb ct) (ht : ∀ t ∈ L, w'.heap[t]? = w.heap[t]?) (hm : w'.heap[mb]? = w.heap[mb]?) (hr : ∀ t ∈ L, w'.heap[rb t]? = w.heap[rb t]?) : TS N0 U w' c mb q f L rb ct :=
  ⟨h.nd, fun t hL => (h.tr t hL).same (ht t hL) (hr t hL), h.rd, h.ru, h.ml.blk hm, h.mg, h.lf, h.cn⟩
theorem TS.b (h : TS N0 U w c mb q f L rb ct) (hb : Below w.heap.size w w') : TS N0 U w' c mb q f L rb ct := h.same (fun t ht => hb.block _ (h.tr t ht).tg.lt) (hb.block _ h.ml.lt) (fun t ht => hb.block _ (h.tr t ht).rlt)
/-- Where none of the trays' kinds turn, and the map doesn't. -/
theorem TS.chg (h : TS N0 U w c mb q f L rb ct) {ts : List (Option TypeId)} {N : Nat} (hc : Chg ts N w w') (h1 : some 194 ∉ ts) (h2 : some 42 ∉ ts) (hm : w'.heap[mb]? = w.heap[mb]?) : TS N0 U w' c mb q f L rb ct := by
  refine h.same (fun t ht => hc.same (h.tr t ht).tg h1) hm (fun t ht => ?_)
  rcases (h.tr t ht).row with e | h'
  · rw [e]; exact hc.same (h.tr t ht).tg h1
  · exact hc.same h'.1 h2
theorem TS.chgN (h : TS N0 U w c mb q f L rb ct) {ts : List (Option TypeId)} {N : Nat} (hc : Chg ts N w w') (h1 : some 194 ∉ ts) (h2 : some 42 ∉ ts) (h3 : none ∉ ts) : TS N0 U w' c mb q f L rb ct := by
  refine h.chg hc h1 h2 ?_
  rcases hc.blk mb h.ml.lt with e | ⟨_, o, e1, e2⟩
  · exact e
  · obtain ⟨o', e3, e4⟩ := h.ml.kindless
    rw [e1] at e3
    rw [Option.some.inj e3, e4] at e2
    exact absurd e2 h3
/-- Where others' rows turn. -/
theorem TS.turnU (h : TS N0 U w c mb q f L rb ct) (hs : ∀ k, k < w.heap.size → ¬ U k → w'.heap[k]? = w.heap[k]?) (hu : ∀ k, U k → Tag w k 42) : TS N0 U w' c mb q f L rb ct := by
  refine h.same (fun t ht => hs t (h.tr t ht).tg.lt (fun hU => (h.tr t ht).tg.ne (hu t hU) (by decide) rfl)) (hs mb h.ml.lt (fun hU => ?_)) (fun t ht => hs _ (h.tr t ht).rlt (h.ru t ht))
  obtain ⟨o, h1, h2⟩ := h.ml.kindless
  obtain ⟨cur, fz, h3⟩ := hu mb hU
  rw [h1] at h3
  rw [Option.some.inj h3] at h2
  cases h2
/-- Others have other rows. -/
theorem TS.others (h : TS N0 U w c mb q f L rb ct) {V : Nat → Prop} (hv : ∀ t ∈ L, V (rb t) → U (rb t)) : TS N0 V w c mb q f L rb ct := ⟨h.nd, h.tr, h.rd, fun t ht hV => h.ru t ht (hv t ht hV), h.ml, h.mg, h.lf, h.cn⟩
/-- Fewer trays: those that go are empty. -/
theorem TS.sub (h : TS N0 U w c mb q f L rb ct) {L' : List Nat} (hn : L'.Nodup) (hs : ∀ t ∈ L', t ∈ L) (he : ∀ t ∈ L, t ∉ L' → ct t = []) : TS N0 U w c mb q f L' rb ct :=
  ⟨hn, fun t ht => h.tr t (hs t ht), fun t ht u hu => h.rd t (hs t ht) u (hs u hu), fun t ht => h.ru t (hs t ht), h.ml, h.mg, fun a b t => by
    rw [h.lf]
    refine ⟨fun ⟨h1, h2⟩ => ⟨?_, h2⟩, fun ⟨h1, h2⟩ => ⟨hs t h1, h2⟩⟩
    by_cases h3 : t ∈ L'
    · exact h3
    · exact absurd h2 (by rw [he t h1 h3]; simp), fun t ht => h.cn t (hs t ht)⟩
def upN {α : Type} (f : Nat → α) (t : Nat) (v : α) : Nat → α := fun x => if x = t then v else f x
theorem upN_at {α : Type} (f : Nat → α) (t : Nat) (v : α) : upN f t v t = v := by simp [upN]
theorem upN_ne {α : Type} {f : Nat → α} {t x : Nat} (h : x ≠ t) (v : α) : upN f t v x = f x := by simp [upN, h]
/-- A new tray beside. -/
theorem TS.add (h : TS N0 U w c mb q f L rb ct) {t : Nat} (hn : t ∉ L) (hT : TRy N0 w c t t []) (hr : ∀ u ∈ L, rb u ≠ t) (hu : ¬ U t) : TS N0 U w c mb q f (t :: L) (upN rb t t) (upN ct t []) := by
  have hne : ∀ u ∈ L, u ≠ t := fun u hu e => hn (e ▸ hu)
  refine ⟨List.nodup_cons.2 ⟨hn, h.nd⟩, fun u hu => ?_, fun u hu v hv hne' => ?_, fun u hu' => ?_, h.ml, h.mg, fun a b u => ?_, fun u hu => ?_⟩
  · rcases List.mem_cons.1 hu with rfl | hu
    · rw [upN_at, upN_at]; exact hT
    · rw [upN_ne (hne u hu), upN_ne (hne u hu)]; exact h.tr u hu
  · rcases List.mem_cons.1 hu with e | hu
    · rcases List.mem_cons.1 hv with e2 | hv
      · exact absurd (e.trans e2.symm) hne'
      · rw [e, upN_at, upN_ne (hne v hv)]; exact (hr v hv).symm
    · rcases List.mem_cons.1 hv with e2 | hv
      · rw [e2, upN_at, upN_ne (hne u hu)]; exact hr u hu
      · rw [upN_ne (hne u hu), upN_ne (hne v hv)]; exact h.rd u hu v hv hne'
  · rcases List.mem_cons.1 hu' with rfl | hu'
    · rw [upN_at]; exact hu
    · rw [upN_ne (hne u hu')]; exact h.ru u hu'
  · rw [h.lf]
    refine ⟨fun ⟨h1, h2⟩ => ⟨List.mem_cons_of_mem _ h1, by rw [upN_ne (hne u h1)]; exact h2⟩, fun ⟨h1, h2⟩ => ?_⟩
    rcases List.mem_cons.1 h1 with rfl | h1
    · rw [upN_at] at h2; cases h2
    · rw [upN_ne (hne u h1)] at h2
      exact ⟨h1, h2⟩
  · rcases List.mem_cons.1 hu with rfl | hu
    · rw [upN_at]; exact ⟨List.nodup_nil, by simp, fun o ho => by cases ho⟩
    · rw [upN_ne (hne u hu)]; exact h.cn u hu
end
end Mg
end Go.Proofs.YtfefehkapffljaaGreatDoor
namespace Go.Proofs.YtfefehkapffljaaGreatDoor
open Go.RowKit Go.Maps
namespace Mg
open Fr Bd Zn Dz Sb
theorem tcount_ok {N0 : Nat} {w : World} {c t r : Nat} {xs : List Bl} (h : TRy N0 w c t r xs) : Calls Tryz.prog 147 #[.pointer (some ⟨t, 0, none⟩)] w fun ev w' => ev = .returned (.int .i64 xs.length) ∧ w' = w := by
  obtain ⟨v, e, o, _⟩ := h.c1
  obtain ⟨p, d, rfl⟩ := own_sl o
  clear h o
  go_enter Tryz.func147, Tryz.ntmps147
  go_wp2
  go_ret
  exact ⟨rfl, rfl⟩
/-- A new tray. -/
theorem tray_ok (N0 c : Nat) (w : World) (_hN : N0 ≤ w.heap.size) : Calls Tryz.prog 96 #[.pointer (some ⟨c, 0, none⟩)] w fun ev w' => ev = .returned (.pointer (some ⟨w.heap.size, 0, none⟩)) ∧ w' = w.alloc (.cells #[.pointer (some ⟨c, 0, none⟩), .slice none 0 0] 194) := by
  go_enter Tryz.func96, Tryz.ntmps96
  go_wp2
  go_ret
  exact ⟨rfl, rfl⟩
theorem tray_new (N0 c : Nat) (w : World) (hN : N0 ≤ w.heap.size) : TRy N0 (w.alloc (.cells #[.pointer (some ⟨c, 0, none⟩), .slice none 0 0] 194)) c w.heap.size w.heap.size [] :=
  ⟨World.cell?_alloc_new w _ 194 0, ⟨_, World.cell?_alloc_new w _ 194 1, World.ownsRow_nil _ _ _ _, Or.inl ⟨rfl, rfl⟩⟩, tag_new _ _ _, hN, fun o => World.frozen?_alloc_at _ _ w.heap.size o rfl⟩
theorem worker_yes {w : World} {d g n cp : Nat} (e1 : w.cell? ⟨d, 1, none⟩ = some (.slice (some ⟨g, 0, none⟩) n cp)) {i : Nat} (hi : i < n) :
    Calls Tryz.prog 97 #[.pointer (some ⟨d, 0, none⟩), .int .i64 (i : Int)] w fun ev w' => ev = .returned (.tuple #[.pointer (some ⟨g, i * 2, none⟩), .nilIface]) ∧ Below w.heap.size w w' := by
  have h0 : decide ((i : Int) < 0) = false := by simp
  have h1 : decide ((i : Int) ≥ n) = false := by simp; omega
  have h2 : (0 : Int) ≤ i := by omega
  have h3 : (i : Int) < n := by omega
  go_enter Tryz.func97, Tryz.ntmps97
  go_wp2
  go_ret2
  exact ⟨rfl, Below.refl _ _⟩
theorem worker_no {w : World} {d g n cp : Nat} (e1 : w.cell? ⟨d, 1, none⟩ = some (.slice (some ⟨g, 0, none⟩) n cp)) {x : Int} (hx : x < 0 ∨ (n : Int) ≤ x) (e : Nat → Addr) (he : ErrsM w e) :
    Calls Tryz.prog 97 #[.pointer (some ⟨d, 0, none⟩), .int .i64 x] w fun ev w' => ev = .returned (.tuple #[.pointer none, errV (e 1)]) ∧ Below w.heap.size w w' := by
  have E1 := he.v1
  clear he
  unfold errV at *
  by_cases hx0 : x < 0
  · have h0 : decide (x < 0) = true := by simpa using hx0
    go_enter Tryz.func97, Tryz.ntmps97
    go_wp2
    go_quiet (fail)
    go_wp2
    go_ret2
    exact ⟨rfl, bdN (Below.refl _ _) _⟩
  · have h0 : decide (x < 0) = false := by simpa using hx0
    have h1 : decide (x ≥ n) = true := by simp; omega
    go_enter Tryz.func97, Tryz.ntmps97
    go_wp2
    go_quiet (fail)
    go_wp2
    go_ret2
    exact ⟨rfl, bdN (Below.refl _ _) _⟩
theorem flatP_set : ∀ (l : List (Nat × Nat)) (i : Nat) (a b : Nat), ((flatP l).set (i * 2) (ptr a)).set (i * 2 + 1) (ptr b) = flatP (l.set i (a, b))
  | [], i, a, b => by simp [flatP]
  | y :: l, 0, a, b => rfl
  | y :: l, i + 1, a, b => by
    have := flatP_set l i a b
    have e : flatP (y :: l) = ptr y.1 :: ptr y.2 :: flatP l := rfl
    have e2 : flatP ((y :: l).set (i + 1) (a, b)) = ptr y.1 :: ptr y.2 :: flatP (l.set i (a, b)) := rfl
    rw [e, e2, show (i + 1) * 2 = i * 2 + 1 + 1 from by omega, ← this]
    rfl
/-- A pair's two cells. -/
theorem pair_set {N0 : Nat} {w : World} {g cp : Nat} {ws : List (Nat × Nat)} (ho : w.ownsRow N0 168 2 (.slice (some ⟨g, 0, none⟩) ws.length cp) ws.length (flatP ws)) (i a b : Nat) :
    ((w.setCell ⟨g, i * 2, none⟩ (ptr a)).setCell ⟨g, i * 2 + 1, none⟩ (ptr b)).ownsRow N0 168 2 (.slice (some ⟨g, 0, none⟩) ws.length cp) ws.length (flatP (ws.set i (a, b))) ∧ Chg [some 168] N0 w ((w.setCell ⟨g, i * 2, none⟩ (ptr a)).setCell ⟨g, i * 2 + 1, none⟩ (ptr b)) ∧ Kept g g w ((w.setCell ⟨g, i * 2, none⟩ (ptr a)).setCell ⟨g, i * 2 + 1, none⟩ (ptr b)) := by
  have hg : N0 ≤ g := (ho.lt g rfl).1
  have ht : Tag w g 168 := by
    rcases ho.2 with ⟨e, _⟩ | ⟨g', cap, cur, e, _, hh, _⟩
    · cases e
    · simp only [Value.slice.injEq, Option.some.injEq, Addr.mk.injEq] at e
      obtain ⟨⟨rfl, _⟩, _⟩ := e
      exact ⟨cur, _, hh⟩
  have h1 := (ho.stored (i * 2) (ptr a)).1
  have h2 := (h1.stored (i * 2 + 1) (ptr b)).1
  rw [flatP_set] at h2
  exact ⟨h2, (Chg.set ht hg _ _).trans (Chg.set (ht.set _ _) hg _ _), (kept_set _ _ _).trans (kept_set _ _ _)⟩
/-- The pair i changes its places. -/
theorem swap_ok {N0 : Nat} {w : World} {g cp : Nat} {ws : List (Nat × Nat)} (ho : w.ownsRow N0 168 2 (.slice (some ⟨g, 0, none⟩) ws.length cp) ws.length (flatP ws)) {i a b : Nat} (hi : ws[i]? = some (a, b)) :
    Calls Tryz.prog 149 #[.pointer (some ⟨g, i * 2, none⟩)] w fun ev w' => ev = .returned (.tuple #[]) ∧ w'.ownsRow N0 168 2 (.slice (some ⟨g, 0, none⟩) ws.length cp) ws.length (flatP (ws.set i (b, a))) ∧ Chg [some 168] N0 w w' ∧ Kept g g w w' := by
  obtain ⟨e0, e1⟩ := flatP_get ws i (a, b) hi
  have hn : i < ws.length := (List.getElem?_eq_some_iff.mp hi).1
  have x0 := (ho.cellAt (i * 2) (by omega)).trans e0
  have x1 := (ho.cellAt (i * 2 + 1) (by omega)).trans e1
  have f0 := ho.frozenAt (i * 2)
  have f1 := ho.frozenAt (i * 2 + 1)
  unfold ptr at x0 x1
  go_enter Tryz.func149, Tryz.ntmps149
  go_wp2
  go_region
  go_end0
  obtain ⟨h1, h2, h3⟩ := pair_set ho i b a
  exact ⟨rfl, own_b h1 (drw _), (h2.trans (Chg.below (drw _))), h3.trans (kept_of (drw _))⟩
end Mg
end Go.Proofs.YtfefehkapffljaaGreatDoor
