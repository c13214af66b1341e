/- M1 · M2 · M3 · M4 · M5. -/
import Derived.Test.YtfefehkapffljaaGreatDoorKZ
import Derived.Test.YtfefehkapffljaaGreatDoorGD
import Derived.Test.YtfefehkapffljaaGreatDoorKC
import Derived.Test.YtfefehkapffljaaGreatDoorMA
import Derived.Laws.OwnMore
import Derived.BigRegion
import Derived.BigQuiet
import Derived.Test.YtfefehkapffljaaGreatDoorKB
import Derived.Shelf.RegionOpenPlain
import Derived.Deep.RegionLaw
import Derived.Lib.SliceRun
namespace Go.Proofs.YtfefehkapffljaaGreatDoor
open Go.RowKit Go.Maps
namespace Mg
open Fr Bd Zn Dz Sb
def trE : Value → Option (DataW Unit × List MemPlace)
 | .pointer none => some (.lit (.int .i64 (-1)), [])
 | .pointer (some ⟨b, 0, none⟩) => some (.lit (.int .i64 (b : Int)), [])
 | _ => none
def trV : Option Nat → Value
 | none => .pointer none
 | some b => .pointer (some ⟨b, 0, none⟩)
def trD : Option Nat → DataW Unit
 | none => .lit (.int .i64 (-1))
 | some b => .lit (.int .i64 (b : Int))
theorem trE_V (o : Option Nat) : trE (trV o) = some (trD o, []) := by cases o <;> rfl
theorem trD_inj {o o' : Option Nat} (h : trD o = trD o') : o = o' := by
 cases o <;> cases o' <;> simp only [trD, DataW.lit.injEq, Lit.int.injEq, true_and] at h
 · rfl
 · omega
 · omega
 · rw [show (_ : Nat) = _ from Int.ofNat.inj h]
theorem trE_inv {v : Value} {o : Option Nat} {ps : List MemPlace} (h : trE v = some (trD o, ps)) : v = trV o := by
 unfold trE at h
 split at h
 · simp only [Option.some.injEq, Prod.mk.injEq] at h
   obtain rfl : none = o := trD_inj h.1
   rfl
 · rename_i b
   simp only [Option.some.injEq, Prod.mk.injEq] at h
   obtain rfl : some b = o := trD_inj h.1
   rfl
 · cases h
def okl (a b : Int) : Lit := .string (keyBytes [.int .i64 a, .int .i64 b])
def W2 (a b : Int) : Prop := (Lit.int .i64 a).wf = true ∧ (Lit.int .i64 b).wf = true
theorem okl_inj {a b a' b' : Int} (h : W2 a b) (h' : W2 a' b') (e : okl a b = okl a' b') : a = a' ∧ b = b' := by
 have e2 : keyBytes [.int .i64 a, .int .i64 b] = keyBytes [.int .i64 a', .int .i64 b'] := by simpa [okl] using e
 have := keyBytes_inj (l := [.int .i64 a, .int .i64 b]) (l' := [.int .i64 a', .int .i64 b']) ⟨rfl, rfl, trivial⟩ (fun x hx => by
   simp only [List.mem_cons, List.not_mem_nil, or_false] at hx
   rcases hx with rfl | rfl
   · exact h.1
   · exact h.2) (fun x hx => by
   simp only [List.mem_cons, List.not_mem_nil, or_false] at hx
   rcases hx with rfl | rfl
   · exact h'.1
   · exact h'.2) e2
 simpa using this
def upF (f : Int → Int → Option Nat) (a b : Int) (v : Option Nat) : Int → Int → Option Nat := fun x y => if x = a ∧ y = b then v else f x y
theorem upF_at (f : Int → Int → Option Nat) (a b : Int) (v : Option Nat) : upF f a b v a b = v := by simp [upF]
theorem upF_ne {f : Int → Int → Option Nat} {a b x y : Int} (h : ¬ (x = a ∧ y = b)) (v : Option Nat) : upF f a b v x y = f x y := by simp [upF, h]
structure Ml (w : World) (mb q : Nat) (f : Int → Int → Option Nat) : Prop where
 own : ∃ D, w.ownsMap (H := Unit) Tryz.prog 42 trE mb q D ∧ ∀ a b, W2 a b → D.atKey (okl a b) (trD none) = trD (f a b)
section
variable {w w' : World} {mb q : Nat} {f : Int → Int → Option Nat}
theorem Ml.lt (h : Ml w mb q f) : mb < w.heap.size := by
 obtain ⟨D, h1, _⟩ := h.own
 exact h1.lt
theorem Ml.blk (h : Ml w mb q f) (hb : w'.heap[mb]? = w.heap[mb]?) : Ml w' mb q f := by
 obtain ⟨D, ⟨es, clock, h1, h2⟩, h3⟩ := h.own
 exact ⟨D, ⟨es, clock, hb.trans h1, h2⟩, h3⟩
theorem Ml.b (h : Ml w mb q f) (hb : Below w.heap.size w w') : Ml w' mb q f := h.blk (hb.block _ h.lt)
theorem Ml.look (h : Ml w mb q f) {a b : Int} (hw : W2 a b) : (Instr.lookup 111 (.map (some mb)) (.agg #[.int .i64 a, .int .i64 b]) false).run Tryz.prog w = .ok (trV (f a b)) w := by
 obtain ⟨D, h1, h2⟩ := h.own
 obtain ⟨v, ps, hr, hv⟩ := h1.lookup keyed42 Tryz.underlying111 (zero165 w) (trE_V none) (key42 hw.1 hw.2)
 rw [show DataW.atKey D (Lit.string (keyBytes [.int .i64 a, .int .i64 b])) (trD none) = trD (f a b) from h2 a b hw] at hv
 rw [trE_inv hv] at hr
 exact hr
theorem Ml.lookN (h : Ml w mb q f) {a b : Int} (hw : W2 a b) (n : Nat) : (Instr.lookup 111 (.map (some mb)) (.agg #[.int .i64 a, .int .i64 b]) false).run Tryz.prog (w.drewN n) = .ok (trV (f a b)) (w.drewN n) := (h.b (bdN (Below.refl _ _) n)).look hw
theorem Ml.empty (hb : w.heap[mb]? = some (.map #[] 0)) : Ml w mb 0 (fun _ _ => none) := ⟨.map [], ⟨#[], 0, hb, ⟨by simp, MapKept.stamped_empty 0, by simp⟩, Nat.le_refl _, rfl⟩, fun _ _ _ => rfl⟩
theorem Ml.store (h : Ml w mb q f) (hq : q < maxLen) {a b : Int} (hw : W2 a b) (t : Option Nat) : ∃ w', (Instr.mapUpdate 111 (.map (some mb)) (.agg #[.int .i64 a, .int .i64 b]) (trV t)).run Tryz.prog w = .ok () w' ∧ Ml w' mb (q + 1) (upF f a b t) ∧ Kept mb mb w w' := by
 obtain ⟨D, h1, h2⟩ := h.own
 obtain ⟨w', hr, h3, h4⟩ := h1.store keyed42 Tryz.underlying111 hq (key42 hw.1 hw.2) (trE_V t)
 refine ⟨w', hr, ⟨_, h3, fun x y hx => ?_⟩, kept_turned h4 (Or.inl rfl)⟩
 by_cases e : x = a ∧ y = b
 · obtain ⟨rfl, rfl⟩ := e
   rw [upF_at]
   exact atKey_put_same h1.isMap (keyed42.key (key42 hw.1 hw.2)) _ _
 · rw [upF_ne e, ← h2 x y hx]
   exact atKey_put_other (fun e2 => e (okl_inj hx hw e2)) _ _
theorem Ml.drop (h : Ml w mb q f) {a b : Int} (hw : W2 a b) (ty : TypeId) : ∃ w', (Builtin.delete_ #[111, 42] ty #[.map (some mb), .agg #[.int .i64 a, .int .i64 b]]).run Tryz.prog w = .ok (.tuple #[]) w' ∧ Ml w' mb q (upF f a b none) ∧ Kept mb mb w w' := by
 obtain ⟨D, h1, h2⟩ := h.own
 obtain ⟨w', hr, h3, h4⟩ := h1.drop keyed42 Tryz.underlying111 (key42 hw.1 hw.2) ty
 refine ⟨w', hr, ⟨_, h3, fun x y hx => ?_⟩, kept_turned h4 (Or.inl rfl)⟩
 by_cases e : x = a ∧ y = b
 · obtain ⟨rfl, rfl⟩ := e
   rw [upF_at]
   exact atKey_del_same _
 · rw [upF_ne e, ← h2 x y hx]
   exact atKey_del_other (fun e2 => e (okl_inj hx hw e2)) _
end
end Mg
end Go.Proofs.YtfefehkapffljaaGreatDoor
namespace Go.Proofs.YtfefehkapffljaaGreatDoor
open Go.RowKit Go.Maps
namespace Mg
open Fr Bd Zn Dz Sb
theorem Ml.kindless {w : World} {mb q : Nat} {f : Int → Int → Option Nat} (h : Ml w mb q f) : ∃ o, w.heap[mb]? = some o ∧ kind o = none := by
 obtain ⟨D, ⟨es, clock, h1, _⟩, _⟩ := h.own
 exact ⟨_, h1, rfl⟩
theorem own_sl {w : World} {b e size n : Nat} {v : Value} {xs : List Value} (h : w.ownsRow b e size v n xs) : ∃ p d, v = .slice p n d := by
 rcases h.2 with ⟨rfl, rfl⟩ | ⟨g, cap, cur, rfl, _⟩
 · exact ⟨_, _, rfl⟩
 · exact ⟨_, _, rfl⟩
structure TRy (N0 : Nat) (w : World) (c t r : Nat) (xs : List Bl) : Prop where
 c0 : w.cell? ⟨t, 0, none⟩ = some (ptr c)
 c1 : ∃ v, w.cell? ⟨t, 1, none⟩ = some v ∧ w.ownsRow N0 42 2 v xs.length (flat xs) ∧ ((v = .slice none 0 0 ∧ r = t) ∨ ∃ cp, v = .slice (some ⟨r, 0, none⟩) xs.length cp)
 tg : Tag w t 194
 ge : N0 ≤ t
 fz : ∀ o, w.frozen? ⟨t, o, none⟩ = false
section
variable {N0 : Nat} {w w' : World} {c t r : Nat} {xs : List Bl}
theorem TRy.row (h : TRy N0 w c t r xs) : r = t ∨ (Tag w r 42 ∧ N0 ≤ r) := by
 obtain ⟨v, _, o, (⟨_, e⟩ | ⟨cp, rfl⟩)⟩ := h.c1
 · exact Or.inl e
 · rcases o.2 with ⟨e, _⟩ | ⟨g, cap, cur, e, hg, hh, _⟩
   · cases e
   · simp only [Value.slice.injEq, Option.some.injEq, Addr.mk.injEq] at e
     obtain ⟨⟨rfl, _⟩, _⟩ := e
     exact Or.inr ⟨⟨cur, _, hh⟩, hg⟩
theorem TRy.rlt (h : TRy N0 w c t r xs) : r < w.heap.size := by
 rcases h.row with rfl | h'
 · exact h.tg.lt
 · exact h'.1.lt
theorem TRy.rge (h : TRy N0 w c t r xs) : N0 ≤ r := by
 rcases h.row with rfl | h'
 · exact h.ge
 · exact h'.2
theorem TRy.same (h : TRy N0 w c t r xs) (ht : w'.heap[t]? = w.heap[t]?) (hr : w'.heap[r]? = w.heap[r]?) : TRy N0 w' c t r xs := by
 obtain ⟨v, e, o, hv⟩ := h.c1
 refine ⟨(World.cell?_of_block (w := w) ht).trans h.c0, ⟨v, (World.cell?_of_block (w := w) ht).trans e, ⟨o.1, ?_⟩, hv⟩, h.tg.blk ht, h.ge, fun j => (World.frozen?_of_block (w := w) (a := ⟨t, j, none⟩) ht).trans (h.fz j)⟩
 rcases o.2 with h2 | ⟨g, cap, cur, h1, h2, h3, h4⟩
 · exact Or.inl h2
 · refine Or.inr ⟨g, cap, cur, h1, h2, ?_, h4⟩
   rcases hv with ⟨e1, _⟩ | ⟨cp, e1⟩
   · rw [e1] at h1; cases h1
   · rw [e1] at h1
     simp only [Value.slice.injEq, Option.some.injEq, Addr.mk.injEq] at h1
     obtain ⟨⟨rfl, _⟩, _⟩ := h1
     exact hr.trans h3
theorem TRy.b (h : TRy N0 w c t r xs) (hb : Below w.heap.size w w') : TRy N0 w' c t r xs := h.same (hb.block _ h.tg.lt) (hb.block _ h.rlt)
end
def trs (ws : List (Nat × Nat)) (pl : List Nat) : List Nat := ws.flatMap (fun x => [x.1, x.2]) ++ pl
def flatP (ws : List (Nat × Nat)) : List Value := ws.flatMap fun x => [ptr x.1, ptr x.2]
theorem flatP_get : ∀ (l : List (Nat × Nat)) (i : Nat) (x : Nat × Nat), l[i]? = some x → (flatP l)[i * 2]? = some (ptr x.1) ∧ (flatP l)[i * 2 + 1]? = some (ptr x.2)
 | [], i, x, h => by simp at h
 | y :: l, 0, x, h => by
   simp only [List.getElem?_cons_zero, Option.some.injEq] at h
   subst h
   exact ⟨rfl, rfl⟩
 | y :: l, i + 1, x, h => by
   have := flatP_get l i x (by simpa using h)
   have e : flatP (y :: l) = [ptr y.1, ptr y.2] ++ flatP l := rfl
   rw [e, show (i + 1) * 2 = i * 2 + 2 from by omega, show i * 2 + 2 + 1 = (i * 2 + 1) + 2 from by omega]
   simpa using this
structure TS (N0 : Nat) (U : Nat → Prop) (w : World) (c mb q : Nat) (f : Int → Int → Option Nat) (L : List Nat) (rb : Nat → Nat) (ct : Nat → List Bl) : Prop where
 nd : L.Nodup
 tr : ∀ t ∈ L, TRy N0 w c t (rb t) (ct t)
 rd : ∀ t ∈ L, ∀ u ∈ L, t ≠ u → rb t ≠ rb u
 ru : ∀ t ∈ L, ¬ U (rb t)
 ml : Ml w mb q f
 mg : N0 ≤ mb
 lf : ∀ a b t, f a b = some t ↔ t ∈ L ∧ (a, b) ∈ ct t
 cn : ∀ t ∈ L, (ct t).Nodup ∧ (ct t).length ≤ 4 ∧ ∀ o ∈ ct t, W2 o.1 o.2
structure DB (N0 : Nat) (w : World) (c d g : Nat) (ws : List (Nat × Nat)) (pl : List Nat) : Prop where
 d0 : w.cell? ⟨d, 0, none⟩ = some (ptr c)
 d1 : ∃ cp, w.cell? ⟨d, 1, none⟩ = some (.slice (some ⟨g, 0, none⟩) ws.length cp) ∧ w.ownsRow N0 168 2 (.slice (some ⟨g, 0, none⟩) ws.length cp) ws.length (flatP ws)
 d2 : ∃ p cp, w.cell? ⟨d, 2, none⟩ = some (.slice p pl.length cp) ∧ w.ownsRow N0 165 1 (.slice p pl.length cp) pl.length (ptrl pl)
 tg : Tag w d 164
 ge : N0 ≤ d
 fz : ∀ o, w.frozen? ⟨d, o, none⟩ = false
section
variable {N0 : Nat} {U : Nat → Prop} {w w' : World} {c d g mb q : Nat} {f : Int → Int → Option Nat} {ws : List (Nat × Nat)} {pl : List Nat} {L : List Nat} {rb : Nat → Nat} {ct : Nat → List Bl}
theorem own_chg {b e size n : Nat} {v : Value} {xs : List Value} (h : w.ownsRow b e size v n xs) {ts : List (Option TypeId)} {N : Nat} (hc : Chg ts N w w') (hn : some e ∉ ts) : w'.ownsRow b e size v n xs := own_same h (hc.toSame (us := [e]) (by simpa using hn)) (by simp)
theorem DB.same (h : DB N0 w c d g ws pl) (hs : Same [164, 165, 168] w w') : DB N0 w' c d g ws pl := by
 obtain ⟨cp, e1, o1⟩ := h.d1
 obtain ⟨p, cp2, e2, o2⟩ := h.d2
 have hc := fun j => cell_same hs (by simp) h.tg j
 exact ⟨(hc 0).trans h.d0, ⟨cp, (hc 1).trans e1, own_same o1 hs (by simp)⟩, ⟨p, cp2, (hc 2).trans e2, own_same o2 hs (by simp)⟩, tag_same hs (by simp) h.tg, h.ge, fun o => (World.frozen?_of_block (w := w) (a := ⟨d, o, none⟩) (hs d 164 (by simp) h.tg)).trans (h.fz o)⟩
theorem DB.b (h : DB N0 w c d g ws pl) (hb : Below w.heap.size w w') : DB N0 w' c d g ws pl := h.same (same_below hb)
theorem TS.same (h : TS N0 U w c mb q f L rb ct) (ht : ∀ t ∈ L, w'.heap[t]? = w.heap[t]?) (hm : w'.heap[mb]? = w.heap[mb]?) (hr : ∀ t ∈ L, w'.heap[rb t]? = w.heap[rb t]?) : TS N0 U w' c mb q f L rb ct :=
 ⟨h.nd, fun t hL => (h.tr t hL).same (ht t hL) (hr t hL), h.rd, h.ru, h.ml.blk hm, h.mg, h.lf, h.cn⟩
theorem TS.b (h : TS N0 U w c mb q f L rb ct) (hb : Below w.heap.size w w') : TS N0 U w' c mb q f L rb ct := h.same (fun t ht => hb.block _ (h.tr t ht).tg.lt) (hb.block _ h.ml.lt) (fun t ht => hb.block _ (h.tr t ht).rlt)
theorem TS.chg (h : TS N0 U w c mb q f L rb ct) {ts : List (Option TypeId)} {N : Nat} (hc : Chg ts N w w') (h1 : some 194 ∉ ts) (h2 : some 42 ∉ ts) (hm : w'.heap[mb]? = w.heap[mb]?) : TS N0 U w' c mb q f L rb ct := by
 refine h.same (fun t ht => hc.same (h.tr t ht).tg h1) hm (fun t ht => ?_)
 rcases (h.tr t ht).row with e | h'
 · rw [e]; exact hc.same (h.tr t ht).tg h1
 · exact hc.same h'.1 h2
theorem TS.chgN (h : TS N0 U w c mb q f L rb ct) {ts : List (Option TypeId)} {N : Nat} (hc : Chg ts N w w') (h1 : some 194 ∉ ts) (h2 : some 42 ∉ ts) (h3 : none ∉ ts) : TS N0 U w' c mb q f L rb ct := by
 refine h.chg hc h1 h2 ?_
 rcases hc.blk mb h.ml.lt with e | ⟨_, o, e1, e2⟩
 · exact e
 · obtain ⟨o', e3, e4⟩ := h.ml.kindless
   rw [e1] at e3
   rw [Option.some.inj e3, e4] at e2
   exact absurd e2 h3
theorem TS.turnU (h : TS N0 U w c mb q f L rb ct) (hs : ∀ k, k < w.heap.size → ¬ U k → w'.heap[k]? = w.heap[k]?) (hu : ∀ k, U k → Tag w k 42) : TS N0 U w' c mb q f L rb ct := by
 refine h.same (fun t ht => hs t (h.tr t ht).tg.lt (fun hU => (h.tr t ht).tg.ne (hu t hU) (by decide) rfl)) (hs mb h.ml.lt (fun hU => ?_)) (fun t ht => hs _ (h.tr t ht).rlt (h.ru t ht))
 obtain ⟨o, h1, h2⟩ := h.ml.kindless
 obtain ⟨cur, fz, h3⟩ := hu mb hU
 rw [h1] at h3
 rw [Option.some.inj h3] at h2
 cases h2
theorem TS.others (h : TS N0 U w c mb q f L rb ct) {V : Nat → Prop} (hv : ∀ t ∈ L, V (rb t) → U (rb t)) : TS N0 V w c mb q f L rb ct := ⟨h.nd, h.tr, h.rd, fun t ht hV => h.ru t ht (hv t ht hV), h.ml, h.mg, h.lf, h.cn⟩
theorem TS.sub (h : TS N0 U w c mb q f L rb ct) {L' : List Nat} (hn : L'.Nodup) (hs : ∀ t ∈ L', t ∈ L) (he : ∀ t ∈ L, t ∉ L' → ct t = []) : TS N0 U w c mb q f L' rb ct :=
 ⟨hn, fun t ht => h.tr t (hs t ht), fun t ht u hu => h.rd t (hs t ht) u (hs u hu), fun t ht => h.ru t (hs t ht), h.ml, h.mg, fun a b t => by
   rw [h.lf]
   refine ⟨fun ⟨h1, h2⟩ => ⟨?_, h2⟩, fun ⟨h1, h2⟩ => ⟨hs t h1, h2⟩⟩
   by_cases h3 : t ∈ L'
   · exact h3
   · exact absurd h2 (by rw [he t h1 h3]; simp), fun t ht => h.cn t (hs t ht)⟩
def upN {α : Type} (f : Nat → α) (t : Nat) (v : α) : Nat → α := fun x => if x = t then v else f x
theorem upN_at {α : Type} (f : Nat → α) (t : Nat) (v : α) : upN f t v t = v := by simp [upN]
theorem upN_ne {α : Type} {f : Nat → α} {t x : Nat} (h : x ≠ t) (v : α) : upN f t v x = f x := by simp [upN, h]
theorem TS.add (h : TS N0 U w c mb q f L rb ct) {t : Nat} (hn : t ∉ L) (hT : TRy N0 w c t t []) (hr : ∀ u ∈ L, rb u ≠ t) (hu : ¬ U t) : TS N0 U w c mb q f (t :: L) (upN rb t t) (upN ct t []) := by
 have hne : ∀ u ∈ L, u ≠ t := fun u hu e => hn (e ▸ hu)
 refine ⟨List.nodup_cons.2 ⟨hn, h.nd⟩, fun u hu => ?_, fun u hu v hv hne' => ?_, fun u hu' => ?_, h.ml, h.mg, fun a b u => ?_, fun u hu => ?_⟩
 · rcases List.mem_cons.1 hu with rfl | hu
   · rw [upN_at, upN_at]; exact hT
   · rw [upN_ne (hne u hu), upN_ne (hne u hu)]; exact h.tr u hu
 · rcases List.mem_cons.1 hu with e | hu
   · rcases List.mem_cons.1 hv with e2 | hv
     · exact absurd (e.trans e2.symm) hne'
     · rw [e, upN_at, upN_ne (hne v hv)]; exact (hr v hv).symm
   · rcases List.mem_cons.1 hv with e2 | hv
     · rw [e2, upN_at, upN_ne (hne u hu)]; exact hr u hu
     · rw [upN_ne (hne u hu), upN_ne (hne v hv)]; exact h.rd u hu v hv hne'
 · rcases List.mem_cons.1 hu' with rfl | hu'
   · rw [upN_at]; exact hu
   · rw [upN_ne (hne u hu')]; exact h.ru u hu'
 · rw [h.lf]
   refine ⟨fun ⟨h1, h2⟩ => ⟨List.mem_cons_of_mem _ h1, by rw [upN_ne (hne u h1)]; exact h2⟩, fun ⟨h1, h2⟩ => ?_⟩
   rcases List.mem_cons.1 h1 with rfl | h1
   · rw [upN_at] at h2; cases h2
   · rw [upN_ne (hne u h1)] at h2
     exact ⟨h1, h2⟩
 · rcases List.mem_cons.1 hu with rfl | hu
   · rw [upN_at]; exact ⟨List.nodup_nil, by simp, fun o ho => by cases ho⟩
   · rw [upN_ne (hne u hu)]; exact h.cn u hu
end
end Mg
end Go.Proofs.YtfefehkapffljaaGreatDoor
namespace Go.Proofs.YtfefehkapffljaaGreatDoor
open Go.RowKit Go.Maps
namespace Mg
open Fr Bd Zn Dz Sb
theorem tcount_ok {N0 : Nat} {w : World} {c t r : Nat} {xs : List Bl} (h : TRy N0 w c t r xs) : Calls Tryz.prog 147 #[.pointer (some ⟨t, 0, none⟩)] w fun ev w' => ev = .returned (.int .i64 xs.length) ∧ w' = w := by
 obtain ⟨v, e, o, _⟩ := h.c1
 obtain ⟨p, d, rfl⟩ := own_sl o
 clear h o
 go_enter Tryz.func147, Tryz.ntmps147
 go_wp2
 go_ret
 exact ⟨rfl, rfl⟩
theorem tray_ok (N0 c : Nat) (w : World) (_hN : N0 ≤ w.heap.size) : Calls Tryz.prog 96 #[.pointer (some ⟨c, 0, none⟩)] w fun ev w' => ev = .returned (.pointer (some ⟨w.heap.size, 0, none⟩)) ∧ w' = w.alloc (.cells #[.pointer (some ⟨c, 0, none⟩), .slice none 0 0] 194) := by
 go_enter Tryz.func96, Tryz.ntmps96
 go_wp2
 go_ret
 exact ⟨rfl, rfl⟩
theorem tray_new (N0 c : Nat) (w : World) (hN : N0 ≤ w.heap.size) : TRy N0 (w.alloc (.cells #[.pointer (some ⟨c, 0, none⟩), .slice none 0 0] 194)) c w.heap.size w.heap.size [] :=
 ⟨World.cell?_alloc_new w _ 194 0, ⟨_, World.cell?_alloc_new w _ 194 1, World.ownsRow_nil _ _ _ _, Or.inl ⟨rfl, rfl⟩⟩, tag_new _ _ _, hN, fun o => World.frozen?_alloc_at _ _ w.heap.size o rfl⟩
theorem worker_yes {w : World} {d g n cp : Nat} (e1 : w.cell? ⟨d, 1, none⟩ = some (.slice (some ⟨g, 0, none⟩) n cp)) {i : Nat} (hi : i < n) :
   Calls Tryz.prog 97 #[.pointer (some ⟨d, 0, none⟩), .int .i64 (i : Int)] w fun ev w' => ev = .returned (.tuple #[.pointer (some ⟨g, i * 2, none⟩), .nilIface]) ∧ Below w.heap.size w w' := by
 have h0 : decide ((i : Int) < 0) = false := by simp
 have h1 : decide ((i : Int) ≥ n) = false := by simp; omega
 have h2 : (0 : Int) ≤ i := by omega
 have h3 : (i : Int) < n := by omega
 go_enter Tryz.func97, Tryz.ntmps97
 go_wp2
 go_ret2
 exact ⟨rfl, Below.refl _ _⟩
theorem worker_no {w : World} {d g n cp : Nat} (e1 : w.cell? ⟨d, 1, none⟩ = some (.slice (some ⟨g, 0, none⟩) n cp)) {x : Int} (hx : x < 0 ∨ (n : Int) ≤ x) (e : Nat → Addr) (he : ErrsM w e) :
   Calls Tryz.prog 97 #[.pointer (some ⟨d, 0, none⟩), .int .i64 x] w fun ev w' => ev = .returned (.tuple #[.pointer none, errV (e 1)]) ∧ Below w.heap.size w w' := by
 have E1 := he.v1
 clear he
 unfold errV at *
 by_cases hx0 : x < 0
 · have h0 : decide (x < 0) = true := by simpa using hx0
   go_enter Tryz.func97, Tryz.ntmps97
   go_wp2
   go_quiet (fail)
   go_wp2
   go_ret2
   exact ⟨rfl, bdN (Below.refl _ _) _⟩
 · have h0 : decide (x < 0) = false := by simpa using hx0
   have h1 : decide (x ≥ n) = true := by simp; omega
   go_enter Tryz.func97, Tryz.ntmps97
   go_wp2
   go_quiet (fail)
   go_wp2
   go_ret2
   exact ⟨rfl, bdN (Below.refl _ _) _⟩
theorem flatP_set : ∀ (l : List (Nat × Nat)) (i : Nat) (a b : Nat), ((flatP l).set (i * 2) (ptr a)).set (i * 2 + 1) (ptr b) = flatP (l.set i (a, b))
 | [], i, a, b => by simp [flatP]
 | y :: l, 0, a, b => rfl
 | y :: l, i + 1, a, b => by
   have := flatP_set l i a b
   have e : flatP (y :: l) = ptr y.1 :: ptr y.2 :: flatP l := rfl
   have e2 : flatP ((y :: l).set (i + 1) (a, b)) = ptr y.1 :: ptr y.2 :: flatP (l.set i (a, b)) := rfl
   rw [e, e2, show (i + 1) * 2 = i * 2 + 1 + 1 from by omega, ← this]
   rfl
theorem pair_set {N0 : Nat} {w : World} {g cp : Nat} {ws : List (Nat × Nat)} (ho : w.ownsRow N0 168 2 (.slice (some ⟨g, 0, none⟩) ws.length cp) ws.length (flatP ws)) (i a b : Nat) :
   ((w.setCell ⟨g, i * 2, none⟩ (ptr a)).setCell ⟨g, i * 2 + 1, none⟩ (ptr b)).ownsRow N0 168 2 (.slice (some ⟨g, 0, none⟩) ws.length cp) ws.length (flatP (ws.set i (a, b))) ∧ Chg [some 168] N0 w ((w.setCell ⟨g, i * 2, none⟩ (ptr a)).setCell ⟨g, i * 2 + 1, none⟩ (ptr b)) ∧ Kept g g w ((w.setCell ⟨g, i * 2, none⟩ (ptr a)).setCell ⟨g, i * 2 + 1, none⟩ (ptr b)) := by
 have hg : N0 ≤ g := (ho.lt g rfl).1
 have ht : Tag w g 168 := by
   rcases ho.2 with ⟨e, _⟩ | ⟨g', cap, cur, e, _, hh, _⟩
   · cases e
   · simp only [Value.slice.injEq, Option.some.injEq, Addr.mk.injEq] at e
     obtain ⟨⟨rfl, _⟩, _⟩ := e
     exact ⟨cur, _, hh⟩
 have h1 := (ho.stored (i * 2) (ptr a)).1
 have h2 := (h1.stored (i * 2 + 1) (ptr b)).1
 rw [flatP_set] at h2
 exact ⟨h2, (Chg.set ht hg _ _).trans (Chg.set (ht.set _ _) hg _ _), (kept_set _ _ _).trans (kept_set _ _ _)⟩
theorem swap_ok {N0 : Nat} {w : World} {g cp : Nat} {ws : List (Nat × Nat)} (ho : w.ownsRow N0 168 2 (.slice (some ⟨g, 0, none⟩) ws.length cp) ws.length (flatP ws)) {i a b : Nat} (hi : ws[i]? = some (a, b)) :
   Calls Tryz.prog 149 #[.pointer (some ⟨g, i * 2, none⟩)] w fun ev w' => ev = .returned (.tuple #[]) ∧ w'.ownsRow N0 168 2 (.slice (some ⟨g, 0, none⟩) ws.length cp) ws.length (flatP (ws.set i (b, a))) ∧ Chg [some 168] N0 w w' ∧ Kept g g w w' := by
 obtain ⟨e0, e1⟩ := flatP_get ws i (a, b) hi
 have hn : i < ws.length := (List.getElem?_eq_some_iff.mp hi).1
 have x0 := (ho.cellAt (i * 2) (by omega)).trans e0
 have x1 := (ho.cellAt (i * 2 + 1) (by omega)).trans e1
 have f0 := ho.frozenAt (i * 2)
 have f1 := ho.frozenAt (i * 2 + 1)
 unfold ptr at x0 x1
 go_enter Tryz.func149, Tryz.ntmps149
 go_wp2
 go_region
 go_end0
 obtain ⟨h1, h2, h3⟩ := pair_set ho i b a
 exact ⟨rfl, own_b h1 (drw _), (h2.trans (Chg.below (drw _))), h3.trans (kept_of (drw _))⟩
end Mg
end Go.Proofs.YtfefehkapffljaaGreatDoor
namespace Go.Proofs.YtfefehkapffljaaGreatDoor
open Go.RowKit Go.Maps
namespace Mg
open Fr Bd Zn Dz Sb
def oth (a b : Int) (x : Bl) : Bool := !decide (x.1 = a ∧ x.2 = b)
abbrev objO (a b : Int) : Obj := .cells #[.int .i64 a, .int .i64 b] 42
theorem eq_ok (x1 x2 a b : Int) (cb : Nat) (w : World) (h0 : w.cell? ⟨cb, 0, none⟩ = some (.int .i64 a)) (h1 : w.cell? ⟨cb, 1, none⟩ = some (.int .i64 b)) (hlt : cb < w.heap.size) :
   Calls Tryz.prog 118 #[(.agg #[.int .i64 x1, .int .i64 x2]), .pointer (some ⟨cb, 0, none⟩)] w fun ev w' => ev = .returned (.bool (!oth a b (x1, x2))) ∧ w' = w.alloc (objO x1 x2) := by
 have g0 : (w.alloc (objO x1 x2)).cell? ⟨cb, 0, none⟩ = some (.int .i64 a) := ((ballo (Below.refl _ _) _).cell (p := ⟨cb, 0, none⟩) hlt).trans h0
 have g1 : (w.alloc (objO x1 x2)).cell? ⟨cb, 1, none⟩ = some (.int .i64 b) := ((ballo (Below.refl _ _) _).cell (p := ⟨cb, 1, none⟩) hlt).trans h1
 have e : (!oth a b (x1, x2)) = (decide (x1 = a) && decide (x2 = b)) := by simp [oth]
 rw [e]
 clear h0 h1 e
 go_enter Tryz.func118, Tryz.ntmps118
 go_wp2
 all_goals
   go_ret
   exact ⟨by simp_all, by simp_all⟩
theorem eq_yes (x1 x2 a b : Int) (cb : Nat) (w : World) (h0 : w.cell? ⟨cb, 0, none⟩ = some (.int .i64 a)) (h1 : w.cell? ⟨cb, 1, none⟩ = some (.int .i64 b)) (hlt : cb < w.heap.size) (hq : oth a b (x1, x2) = false) :
   Calls Tryz.prog 118 #[(.agg #[.int .i64 x1, .int .i64 x2]), .pointer (some ⟨cb, 0, none⟩)] w fun ev w' => ev = .returned (.bool true) ∧ w' = w.alloc (objO x1 x2) := by
 have := eq_ok x1 x2 a b cb w h0 h1 hlt
 rwa [hq] at this
theorem eq_no (x1 x2 a b : Int) (cb : Nat) (w : World) (h0 : w.cell? ⟨cb, 0, none⟩ = some (.int .i64 a)) (h1 : w.cell? ⟨cb, 1, none⟩ = some (.int .i64 b)) (hlt : cb < w.heap.size) (hq : oth a b (x1, x2) = true) :
   Calls Tryz.prog 118 #[(.agg #[.int .i64 x1, .int .i64 x2]), .pointer (some ⟨cb, 0, none⟩)] w fun ev w' => ev = .returned (.bool false) ∧ w' = w.alloc (objO x1 x2) := by
 have := eq_ok x1 x2 a b cb w h0 h1 hlt
 rwa [hq] at this
set_option maxHeartbeats 1000000 in
theorem oindex_ok (L : List Bl) (g cap cb : Nat) (a b : Int) (w : World) (hr : Row w g L) (hl : L.length ≤ 256) (hc : w.cell? ⟨cb, 0, none⟩ = some (.int .i64 a)) (hd : w.cell? ⟨cb, 1, none⟩ = some (.int .i64 b)) (hlt : cb < w.heap.size) :
   Calls Tryz.prog 161 #[.slice (some ⟨g, 0, none⟩) L.length cap, .func (.func 118) #[] #[.pointer (some ⟨cb, 0, none⟩)]] w fun ev w' => Below w.heap.size w w' ∧
     ((ev = .returned (.int .i64 (-1)) ∧ ∀ j, j < L.length → oth a b (L.getD j (0, 0)) = true) ∨ ∃ i : Nat, i < L.length ∧ ev = .returned (.int .i64 i) ∧ oth a b (L.getD i (0, 0)) = false ∧ ∀ j, j < i → oth a b (L.getD j (0, 0)) = true) := by
 have HR := hide hr
 clear hr
 generalize hn : L.length = n at *
 go_enter Tryz.func161, Tryz.ntmps161
 go_wp2
 go_loopw [8] (fun s wr => ∃ i : Nat, s = .int .i64 i ∧ i ≤ n ∧ Below w.heap.size w wr ∧ Hid (∀ j, j < i → oth a b (L.getD j (0, 0)) = true)) (fun s _ => n - (RowKit.intOf s).toNat)
 case atStart => exact ⟨0, rfl, Nat.zero_le _, Below.refl _ _, fun j hj => by omega⟩
 case round =>
   obtain ⟨i, rfl, hi, hb, ha⟩ := hrel
   by_cases hin : i < n
   · have hcb := (hb.cell (p := ⟨cb, 0, none⟩) hlt).trans hc
     have hdb := (hb.cell (p := ⟨cb, 1, none⟩) hlt).trans hd
     have hz := hb.size
     have cc := ((unhide HR).b hb).c i (by omega)
     have HX := hide (show oth a b (L.getD i (0, 0)) = true ∨ oth a b (L.getD i (0, 0)) = false by cases oth a b (L.getD i (0, 0)) <;> simp)
     obtain ⟨c1, c2⟩ := cc
     obtain ⟨x, hx⟩ : ∃ x, x = L.getD i (0, 0) := ⟨_, rfl⟩
     rw [← hx] at c1 c2 HX
     have HXE := hide hx
     clear hx
     obtain ⟨x1, x2⟩ := x
     simp only at c1 c2 HX
     rcases unhide HX with hk | hk
     · have hq := hk
       go_wp2_with fail
       refine (eq_no x1 x2 a b cb _ hcb hdb (by omega) hk).mono ?_
       rintro ev w2 ⟨rfl, rfl⟩
       go_wp2_with fail
       go_roundw
       case rel => exact ⟨i + 1, by go_num, by omega, ballo hb _, fun j hj => by
         by_cases e : j = i
         · subst e; rw [← unhide HXE]; exact hk
         · exact (unhide ha) j (by omega)⟩
       case measure => simp [RowKit.intOf]; omega
     · have hq := hk
       go_wp2_with fail
       refine (eq_yes x1 x2 a b cb _ hcb hdb (by omega) hk).mono ?_
       rintro ev w2 ⟨rfl, rfl⟩
       go_wp2_with fail
       go_ret
       exact ⟨ballo hb _, Or.inr ⟨i, by omega, rfl, by rw [← unhide HXE]; exact hk, unhide ha⟩⟩
   · have hin2 : i = n := by omega
     subst hin2
     go_wp2
     go_ret
     exact ⟨hb, Or.inl ⟨rfl, unhide ha⟩⟩
structure KO (p : Bl → Bool) (L R : List Bl) (i j : Nat) : Prop where
 len : R.length = L.length
 lt : i < j
 le : j ≤ L.length
 took : R.take i = (L.take j).filter p
 rest : ∀ m, j ≤ m → R.getD m (0, 0) = L.getD m (0, 0)
theorem KO.start {p : Bl → Bool} {L : List Bl} {i : Nat} (hi : i < L.length) (h1 : p (L.getD i (0, 0)) = false) (h2 : ∀ j, j < i → p (L.getD j (0, 0)) = true) : KO p L L i (i + 1) := by
 refine ⟨rfl, by omega, by omega, ?_, fun _ _ => rfl⟩
 rw [List.take_succ_eq_append_getElem hi, List.filter_append]
 rw [getD_lt hi] at h1
 have e1 : (L.take i).filter p = L.take i := List.filter_eq_self.2 (fun x hx => by
   obtain ⟨m, hm, rfl⟩ := List.getElem_of_mem hx
   have hm' : m < i := by simp at hm; omega
   have := h2 m hm'
   rw [getD_lt (by omega)] at this
   simpa using this)
 rw [e1]
 simp [h1]
theorem KO.skip {p : Bl → Bool} {L R : List Bl} {i j : Nat} (h : KO p L R i j) (hj : j < L.length) (h1 : p (L.getD j (0, 0)) = false) : KO p L R i (j + 1) := by
 refine ⟨h.len, by have := h.lt; omega, by omega, ?_, fun m hm => h.rest m (by omega)⟩
 rw [List.take_succ_eq_append_getElem hj, List.filter_append, h.took]
 rw [getD_lt hj] at h1
 simp [h1]
theorem KO.keep {p : Bl → Bool} {L R : List Bl} {i j : Nat} (h : KO p L R i j) (hj : j < L.length) (h1 : p (L.getD j (0, 0)) = true) : KO p L (R.set i (L.getD j (0, 0))) (i + 1) (j + 1) := by
 have hl := h.len
 have hlt := h.lt
 refine ⟨by simpa using h.len, by omega, by omega, ?_, fun m hm => ?_⟩
 · rw [List.take_succ_eq_append_getElem hj, List.filter_append, ← h.took]
   rw [getD_lt hj] at h1 ⊢
   rw [List.take_succ_eq_append_getElem (by simp; omega)]
   rw [List.take_set, List.filter_cons, if_pos (by simpa using h1)]
   simp
   exact List.set_eq_of_length_le (by simp; omega)
 · rw [← h.rest m (by omega)]
   simp [List.getD_eq_getElem?_getD, show i ≠ m by omega]
theorem KO.done {p : Bl → Bool} {L R : List Bl} {i : Nat} (h : KO p L R i L.length) : R.take i = L.filter p ∧ i = (L.filter p).length := by
 have e := h.took
 rw [List.take_length] at e
 refine ⟨e, ?_⟩
 rw [← e, List.length_take, h.len]
 have := h.lt
 omega
theorem oclear_run (w : World) (g i n c ty : Nat) (R : List Bl) (hr : Row w g R) (hi : i < R.length) (hn : n = R.length - i) :
   (Builtin.clear_ #[45] ty #[.slice (some ⟨g, i * 2, none⟩) n c]).run Tryz.prog w = .ok (.tuple #[]) (w.setCells g (i * 2) (List.replicate (n * 2) (.int .i64 0))) := by
 have hst := run_storeCells_cells (P := Tryz.prog) g (i * 2) (List.replicate (n * 2) (.int .i64 0)) 0 w (fun j hj => by
   simp at hj
   have e : i * 2 + 0 + j = (i + j / 2) * 2 + j % 2 := by omega
   have hc := hr.c (i + j / 2) (by omega)
   rw [e]
   rcases (by omega : j % 2 = 0 ∨ j % 2 = 1) with h | h
   · rw [h]; simp [hc.1]
   · rw [h]; simp [hc.2]) (fun j hj => hr.fz _ (by simp at hj; omega)) (by intro v hv'; rw [List.eq_of_mem_replicate hv']; rfl)
 simp only [Nat.add_zero] at hst
 obtain ⟨m, rfl⟩ : ∃ m, n = m + 1 := ⟨n - 1, by omega⟩
 have hz : ∀ w, (zeroValue 42).run Tryz.prog w = .ok (.agg #[.int .i64 0, .int .i64 0]) w := fun w => by kernel_rfl
 have hcs : (Value.agg #[.int .i64 0, .int .i64 0]).cells = #[.int .i64 0, .int .i64 0] := rfl
 simp [Builtin.clear_, run_underlying Tryz.underlying45, hz, hcs, zeros, hst]
def Fm (g : Nat) (w w' : World) : Prop := ∀ cur t, w.heap[g]? = some (.cells cur t (0, 0)) → ∃ cur' : Array Value, w'.heap[g]? = some (.cells cur' t (0, 0)) ∧ cur'.size = cur.size
structure KF (g : Nat) (w w' : World) : Prop where
 k : Kept g g w w'
 f : Fm g w w'
theorem kf_of {g : Nat} {w w' : World} (h : Below w.heap.size w w') : KF g w w' := ⟨kept_of h, fun cur _t e => ⟨cur, (h.block g (Array.getElem?_eq_some_iff.mp e).1).trans e, rfl⟩⟩
theorem KF.refl (g : Nat) (w : World) : KF g w w := kf_of (Below.refl _ _)
theorem KF.trans {g : Nat} {a b c : World} (h : KF g a b) (k : KF g b c) : KF g a c := ⟨h.k.trans k.k, fun cur t e => by
 obtain ⟨c1, e1, s1⟩ := h.f cur t e
 obtain ⟨c2, e2, s2⟩ := k.f c1 t e1
 exact ⟨c2, e2, s2.trans s1⟩⟩
theorem kf_set {g : Nat} (w : World) (o : Nat) (v : Value) : KF g w (w.setCell ⟨g, o, none⟩ v) := ⟨kept_set w o v, fun cur t e => ⟨_, heap_setCell_same w g o cur t v e, by simp⟩⟩
theorem kf_sets {g : Nat} : ∀ (vs : List Value) (o : Nat) (w : World), KF g w (w.setCells g o vs)
 | [], _, _ => KF.refl _ _
 | v :: r, o, w => (kf_set w o v).trans (kf_sets r (o + 1) _)
set_option maxHeartbeats 4000000 in
theorem odelete_ok (L : List Bl) (g cap cb : Nat) (a b : Int) (w : World) (hr : Row w g L) (hl : L.length ≤ 256) (hcap : L.length ≤ cap) (hc : w.cell? ⟨cb, 0, none⟩ = some (.int .i64 a)) (hd : w.cell? ⟨cb, 1, none⟩ = some (.int .i64 b)) (hlt : cb < w.heap.size) (hne : cb ≠ g) :
   Calls Tryz.prog 117 #[.slice (some ⟨g, 0, none⟩) L.length cap, .func (.func 118) #[] #[.pointer (some ⟨cb, 0, none⟩)]] w fun ev w' => KF g w w' ∧
     ∃ M, M = L.filter (oth a b) ∧ ev = .returned (.slice (some ⟨g, 0, none⟩) M.length cap) ∧ Row w' g M := by
 have HI := hide (oindex_ok L g cap cb a b w hr hl hc hd hlt)
 have HR := hide hr
 have hgl := hr.lt
 clear hr
 generalize hn : L.length = n at *
 have HN := hide hn
 go_enter Tryz.func117, Tryz.ntmps117
 go_wp2_with fail
 refine (unhide HI).mono ?_
 rintro ev w1 ⟨hb1, ⟨rfl, ha⟩ | ⟨i0, hi0, rfl, h1, h2⟩⟩
 · have HA := hide ha
   clear ha HI
   have hne1 : ((-1 : Int) == -1) = true := rfl
   go_wp2
   go_ret
   have e : L.filter (oth a b) = L := List.filter_eq_self.2 (fun x hx => by
     obtain ⟨m, hm, rfl⟩ := List.getElem_of_mem hx
     have := (unhide HA) m (by omega)
     rw [getD_lt hm] at this
     exact this)
   exact ⟨kf_of hb1, L, e.symm, by rw [hn]; rfl, (unhide HR).b hb1⟩
 · have K0 := hide (KO.start (p := oth a b) (by omega : i0 < L.length) h1 h2)
   have R0 := hide ((unhide HR).b hb1)
   have hz1 := hb1.size
   have B1 := hide hb1
   have hcb1 := (hb1.cell (p := ⟨cb, 0, none⟩) hlt).trans hc
   have hdb1 := (hb1.cell (p := ⟨cb, 1, none⟩) hlt).trans hd
   clear h1 h2 HI hb1 hc hd
   have hne1 : ((i0 : Int) == -1) = false := beq_eq_false_iff_ne.2 (by omega)
   go_wp2
   go_loopw [5, 6, 7] (fun s5 s6 _ wr => ∃ (i j : Nat) (R : List Bl), s5 = .int .i64 i ∧ s6 = .int .i64 j ∧ i < j ∧ j ≤ n ∧ Hid (KO (oth a b) L R i j) ∧ Hid (Row wr g R) ∧ KF g w1 wr) (fun _ s6 _ _ => n - (RowKit.intOf s6).toNat)
   case atStart => exact ⟨i0, i0 + 1, L, rfl, by go_num, by omega, by omega, K0, R0, KF.refl _ _⟩
   case round =>
     obtain ⟨i, j, R, rfl, rfl, hij, hjn, hK, hRw, hk⟩ := hrel
     have hRl : R.length = n := by rw [(unhide hK).len]; exact hn
     by_cases hjlt : j < n
     · have cc := (unhide hRw).c j (by omega)
       have ci := (unhide hRw).c i (by omega)
       have f1 := (unhide hRw).fz (i * 2) (by omega)
       have f2 := (unhide hRw).fz (i * 2 + 1) (by omega)
       have hcw : wr.cell? ⟨cb, 0, none⟩ = some (.int .i64 a) := (hk.k.cell (p := ⟨cb, 0, none⟩) (by simp only; omega) hne hne).trans hcb1
       have hdw : wr.cell? ⟨cb, 1, none⟩ = some (.int .i64 b) := (hk.k.cell (p := ⟨cb, 1, none⟩) (by simp only; omega) hne hne).trans hdb1
       have hz2 := hk.k.size
       have hgw := (unhide hRw).lt
       rw [(unhide hK).rest j (Nat.le_refl _)] at cc
       obtain ⟨x, hx⟩ : ∃ x, x = L.getD j (0, 0) := ⟨_, rfl⟩
       rw [← hx] at cc
       have HX := hide hx
       clear hx
       obtain ⟨x1, x2⟩ := x
       generalize R.getD i (0, 0) = y at ci
       obtain ⟨c1, c2⟩ := cc
       obtain ⟨i1, i2⟩ := ci
       simp only at c1 c2
       have hcw2 : (wr.alloc (objO x1 x2)).cell? ⟨cb, 0, none⟩ = some (.int .i64 a) := ((ballo (Below.refl _ _) _).cell (p := ⟨cb, 0, none⟩) (by simp only; omega)).trans hcw
       have hdw2 : (wr.alloc (objO x1 x2)).cell? ⟨cb, 1, none⟩ = some (.int .i64 b) := ((ballo (Below.refl _ _) _).cell (p := ⟨cb, 1, none⟩) (by simp only; omega)).trans hdw
       cases hlo : oth a b (x1, x2) with
       | false =>
         go_wp2_with fail
         refine (eq_yes x1 x2 a b cb _ hcw2 hdw2 (by simp [objO]; omega) hlo).mono ?_
         rintro ev w3 ⟨rfl, rfl⟩
         go_wp2_with fail
         go_roundw
         case rel =>
           have b2 := ballo (ballo (Below.refl _ wr) (objO x1 x2)) (objO x1 x2)
           exact ⟨i, j + 1, R, rfl, by go_num, by omega, by omega, (unhide hK).skip (by omega) (by rw [← unhide HX]; exact hlo), (unhide hRw).b b2, hk.trans (kf_of b2)⟩
         case measure => simp [RowKit.intOf]; omega
       | true =>
         have s1 := ballo (ballo (Below.refl _ wr) (objO x1 x2)) (objO x1 x2)
         have t1 := (s1.cell (p := ⟨g, i * 2, none⟩) hgw).trans i1
         have t2 := (s1.cell (p := ⟨g, i * 2 + 1, none⟩) hgw).trans i2
         have t3 := (s1.frozen (p := ⟨g, i * 2, none⟩) hgw).trans f1
         have t4 := (s1.frozen (p := ⟨g, i * 2 + 1, none⟩) hgw).trans f2
         have hin : i < n := by omega
         go_wp2_with fail
         refine (eq_no x1 x2 a b cb _ hcw2 hdw2 (by simp [objO]; omega) hlo).mono ?_
         rintro ev w3 ⟨rfl, rfl⟩
         go_wp2_with fail
         go_roundw
         case rel =>
           have r2 := (unhide hRw).two (i := i) (by omega) x1 x2
           have s2 := ballo (ballo (Below.refl _ ((wr.setCell ⟨g, i * 2, none⟩ (.int .i64 x1)).setCell ⟨g, i * 2 + 1, none⟩ (.int .i64 x2))) (objO x1 x2)) (objO x1 x2)
           refine ⟨i + 1, j + 1, R.set i (x1, x2), by go_num, by go_num, by omega, by omega, ?_, r2.b s2, hk.trans (((kf_set _ _ _).trans (kf_set _ _ _)).trans (kf_of s2))⟩
           have := (unhide hK).keep (by omega) (by rw [← unhide HX]; exact hlo)
           rwa [← unhide HX] at this
         case measure => simp [RowKit.intOf]; omega
     · have hjn2 : j = n := by omega
       subst hjn2
       have hkd := (unhide hK)
       rw [← hn] at hkd
       obtain ⟨d1, d2⟩ := hkd.done
       have HD1 := hide d1
       have HD2 := hide d2
       clear hkd d1 d2
       have hin : i < j := hij
       have hcl := fun ty => oclear_run wr g i (j - i) (cap - i) ty R (unhide hRw) (by omega) (by omega)
       go_wp2
       go_ret
       refine ⟨(kf_of (unhide B1)).trans (hk.trans (kf_sets _ _ _)), _, rfl, by rw [← unhide HD2]; rfl, ?_⟩
       rw [← unhide HD1]
       exact (unhide hRw).cleared i (by omega) _
end Mg
end Go.Proofs.YtfefehkapffljaaGreatDoor
namespace Go.Proofs.YtfefehkapffljaaGreatDoor
open Go.RowKit Go.Lib
namespace Mg
open Sb
theorem info165' : (Tryz.prog.info? 165).map (fun i => (i.zero, i.size, i.bytes)) = some (some (.pointer none), 1, 8) := by kernel_rfl
theorem info165 : ∃ i0, Tryz.prog.info? 165 = some i0 ∧ i0.zero = some (.pointer none) ∧ i0.size = 1 ∧ i0.bytes = 8 := by
 have h := info165'
 cases hi : Tryz.prog.info? 165 with
 | none => rw [hi] at h; cases h
 | some i0 =>
   rw [hi] at h
   simp only [Option.map_some, Option.some.injEq, Prod.mk.injEq] at h
   exact ⟨i0, rfl, h.1, h.2.1, h.2.2⟩
set_option maxHeartbeats 4000000 in
set_option maxRecDepth 1000000 in
theorem tdel_walk (g n c k : Nat) (cs : List Value) (w : World) (hk : k < n) (hcap : n ≤ c) (_hm : c ≤ 9223372036854775807) (hcl : cs.length = n)
   (hcs : ∀ j v, cs[j]? = some v → w.cell? ⟨g, j, none⟩ = some v) (hfz : ∀ j, w.frozen? ⟨g, j, none⟩ = false) (h1c : ∀ v ∈ cs, v.oneCell' = true) :
   Calls Tryz.prog 152 #[.slice (some ⟨g, 0, none⟩) n c, .int .i64 k, .int .i64 ((k : Int) + 1)] w fun e w' => e = .returned (.slice (some ⟨g, 0, none⟩) (n - 1) c) ∧ w' = (w.drew.setCells g k (cs.drop (k + 1))).setCells g (n - 1) [.pointer none] := by
 have mixed : Tryz.prog.follows .mixedOrders = true := by kernel_rfl
 obtain ⟨i0, hi0, hz0, hz1, hz2⟩ := info165
 have hlt : (k : Int) ≠ (k : Int) + 1 := by omega
 obtain ⟨news, hnews⟩ : ∃ news, news = cs.drop (k + 1) := ⟨_, rfl⟩
 have hlen : news.length = n - (k + 1) := by rw [hnews]; simp [hcl]
 have hget : ∀ t u, news[t]? = some u → w.cell? ⟨g, k + 1 + t, none⟩ = some u := fun t u hu => by
   rw [hnews, List.getElem?_drop] at hu; exact hcs _ _ hu
 have hsome : ∀ j, j < n → (w.cell? ⟨g, j, none⟩).isSome = true := fun j hj => by
   rw [hcs j _ (List.getElem?_eq_getElem (by omega))]; rfl
 obtain ⟨A, hA, hsrc⟩ : ∃ A : Addr, (if c = k + 1 then some (⟨g, 0, none⟩ : Addr) else some ⟨g, k + 1, none⟩) = some A ∧ Hid (∀ t u, news[t]? = some u → w.drew.cell? (A.add t) = some u) := by
   by_cases h : c = k + 1
   · refine ⟨⟨g, 0, none⟩, by simp [h], fun t u hu => ?_⟩
     have h0 : news.length = 0 := by rw [hlen]; omega
     rw [List.length_eq_zero_iff.1 h0] at hu
     simp at hu
   · refine ⟨⟨g, k + 1, none⟩, by simp [h], fun t u hu => ?_⟩
     rw [Addr.add_lit]
     exact hget t u hu
 have s1 : Hid (news.length = (n - (k + 1)) * 1) := by rw [Nat.mul_one]; exact hlen
 have s2 : Hid (∀ u ∈ news, u.oneCell' = true) := by
   intro u hu
   rw [hnews] at hu
   exact h1c u (List.mem_of_mem_drop hu)
 have s3 : Hid (∀ t, t < news.length → (w.drew.cell? ⟨g, 0 + k * 1 + t, none⟩).isSome = true ∧ w.drew.frozen? ⟨g, 0 + k * 1 + t, none⟩ = false) := by
   intro t ht
   rw [hlen] at ht
   exact ⟨hsome _ (by omega), hfz _⟩
 obtain ⟨W1, hW1⟩ : ∃ W1, W1 = w.drew.setCells g (0 + k * 1) news := ⟨_, rfl⟩
 have hc1 : ∀ j, j < n → (W1.cell? ⟨g, j, none⟩).isSome = true := fun j hj => by
   rw [hW1]
   exact isSome_setCells g _ _ w.drew (fun t ht => hsome _ (by rw [hlen] at ht; omega)) _ (hsome j hj)
 have hf1 : ∀ j, W1.frozen? ⟨g, j, none⟩ = false := fun j => by rw [hW1, World.frozen?_setCells]; exact hfz j
 have hcl1 : ∀ ty, (Builtin.clear_ #[162] ty #[.slice (some ⟨g, k + (n - (k + 1)), none⟩) (n - (k + (n - (k + 1)))) (c - (k + (n - (k + 1))))]).run Tryz.prog W1 = .ok (.tuple #[]) (W1.setCells g (k + (n - (k + 1))) (List.replicate (n - (k + (n - (k + 1)))) (.pointer none))) :=
   fun ty => Lib.run_clear_slice W1 _ _ ty _ Tryz.underlying162 Tryz.zeroValue165 rfl rfl g (k + (n - (k + 1))) _ _ (by omega) (fun t ht => hc1 _ (by omega)) (fun t ht => hf1 _)
 have hW : Hid (W1 = w.drew.setCells g (0 + k * 1) news) := hW1
 have HN : Hid (news = cs.drop (k + 1)) := hnews
 have hic : k ≤ c := by omega
 have hjc : k + 1 ≤ c := by omega
 have htn : ((k : Int) + 1).toNat = k + 1 := by omega
 have hb1 : (0 : Int) ≤ (k : Int) + 1 := by omega
 have hb2 : (k : Int) ≤ (k : Int) + 1 := by omega
 have hb3 : (k : Int) + 1 ≤ (n : Int) := by omega
 clear hW1 hcs hget hnews hlen hsome hc1 hf1
 go_enter Tryz.func152, Tryz.ntmps152
 go_wp2_with fail
 go_region_law_o (refine step_append_room rfl (.tmp 22) (.tmp 25) 162 rfl 165 i0 1 Tryz.underlying162 hi0 hz1 g 0 k c (by simp [Act.eval, Act.put]) A (n - (k + 1)) (c - (k + 1)) news (by simp [Act.eval, Act.put]) s1.out hsrc.out s2.out (by omega) s3.out ?_; rw [← hW.out])
 go_wp2
 go_ret
 refine ⟨by rw [show n - 1 = k + (n - (k + 1)) by omega]; rfl, ?_⟩
 rw [hW.out, HN.out, show n - (k + (n - (k + 1))) = 1 by omega, show k + (n - (k + 1)) = n - 1 by omega, show 0 + k * 1 = k by omega]
 rfl
theorem tdel_own (N0 : Nat) (p : Option Addr) (n d k : Nat) (cs : List Value) (w : World) (h : w.ownsRow N0 165 1 (.slice p n d) n cs) (hk : k < n) (h1c : ∀ v ∈ cs, v.oneCell' = true) :
   Calls Tryz.prog 152 #[.slice p n d, .int .i64 k, .int .i64 ((k : Int) + 1)] w fun ev w' => ev = .returned (.slice p (n - 1) d) ∧ w'.ownsRow N0 165 1 (.slice p (n - 1) d) (n - 1) (cs.eraseIdx k) ∧ w.grownBy w' (Value.slice p n d).ownBlock := by
 have hcl : cs.length = n := by have := h.1; omega
 obtain ⟨hl, hh⟩ := h
 rcases hh with ⟨_, h0⟩ | ⟨g, cap, cur, hv', hNg, hg, hcap, hmax, hsz, htk⟩
 · omega
 · simp only [Value.slice.injEq, true_and] at hv'
   obtain ⟨rfl, rfl⟩ := hv'
   have hcur : ∀ j, j < n → cur[j]? = cs[j]? := fun j hj => by
     rw [← htk, Nat.mul_one, List.getElem?_take, if_pos hj]; simp
   have hcell : ∀ j, w.cell? ⟨g, j, none⟩ = cur[j]? := fun j => cell_of_row w g j cur 165 (0, 0) hg
   have hcs : ∀ j v, cs[j]? = some v → w.cell? ⟨g, j, none⟩ = some v := fun j v hj => by
     rw [hcell, hcur j (by have := (List.getElem?_eq_some_iff.mp hj).1; omega)]; exact hj
   refine (tdel_walk g n d k cs w hk hcap (by unfold maxLen at hmax; omega) hcl hcs (fun j => by simp [World.frozen?, hg]) h1c).mono ?_
   rintro ev w' ⟨rfl, rfl⟩
   obtain ⟨c1, a1, a2, a3⟩ := blk_setCells g 165 (0, 0) (cs.drop (k + 1)) k w.drew cur hg
   obtain ⟨c2, b1, b2, b3⟩ := blk_setCells g 165 (0, 0) [.pointer none] (n - 1) _ c1 a1
   refine ⟨rfl, own_of b1 hNg (by omega) hmax (by omega) (by rw [List.length_eraseIdx]; simp [hcl, hk]) (fun j hj => ?_), grown_trans (grown_trans (grown_drew w _) (grown_setCells g _ _ _)) (grown_setCells g _ _ _)⟩
   rw [b3 j, a3 j, List.getElem?_eraseIdx]
   simp only [List.length_singleton, List.length_drop, hcl]
   rw [if_neg (by omega)]
   by_cases h1 : j < k
   · rw [if_neg (by omega), if_pos h1, hcur j (by omega)]
   · rw [if_pos (by omega), if_neg h1, List.getElem?_drop]
     congr 1; omega
end Mg
end Go.Proofs.YtfefehkapffljaaGreatDoor
