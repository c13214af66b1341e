/- A depot beside blocks of others: what may turn there; what Take and Give do, told without memory · A pool in memory: its maps. -/
import Derived.Test.YtcbmfakjfoggaaaGreatDoorG31
import Derived.Test.YtcbmfakjfoggaaaGreatDoorG10
import Derived.Test.YtcbmfakjfoggaaaGreatDoorG16
import Derived.Test.YtcbmfakjfoggaaaGreatDoorG04
namespace Go.Proofs.YtcbmfakjfoggaaaGreatDoor
open Go.RowKit Go.Maps
namespace Pl
open Fr Bd Zn Dz Sb Mg
/-- The block of a row that one has. -/
theorem own_tag {w : World} {b e size n g o d m : Nat} {xs : List Value} (h : w.ownsRow b e size (.slice (some ⟨g, o, none⟩) m d) n xs) : Tag w g e := by
  rcases h.2 with ⟨e1, _⟩ | ⟨g', cap, cur, e1, _, hh, _⟩
  · cases e1
  · simp only [Value.slice.injEq, Option.some.injEq, Addr.mk.injEq] at e1
    obtain ⟨⟨rfl, _⟩, _⟩ := e1
    exact ⟨cur, _, hh⟩
/-- The zone's rows of nearest nodes are none of these blocks. -/
def NR (z k : Nat) (S : Nat → Prop) (w : World) : Prop := ∀ g c i h d, w.cell? ⟨z, 4, none⟩ = some (.slice (some ⟨g, 0, none⟩) k c) → w.cell? ⟨g, i, none⟩ = some (.slice (some ⟨h, 0, none⟩) k d) → i < k → ¬ S h
theorem dz_oth {S : Nat → Prop} {w w' : World} {z : Nat} {mn lw hi : Int} {k : Nat} {nb fm tm : Nat → Nat} {nd : Nat → Nd} {fr : Nat → List Nat} (h : DZ w z mn lw hi k nb fm tm nd fr) (hk : Kp S w w') (hs : ∀ b, S b → ∀ t ∈ ([241, 242, 38, 327] : List TypeId), ¬ Tag w b t) (hn : NR z k S w) (hf : ∀ i, i < k → ¬ S (fm i) ∧ ¬ S (tm i)) : DZ w' z mn lw hi k nb fm tm nd fr := by
  have hs : Same [241, 242, 38, 327] w w' := fun b t hm ht => hk.blk b ht.lt (fun hS => hs b hS t hm ht)
  have hl := h.lt
  have hz := fun j => cell_same hs (by simp) h.tz j
  obtain ⟨g, c, e1, o1⟩ := h.cn
  obtain ⟨g2, c2, rows, e2, o2, r2⟩ := h.cf
  refine ⟨(hz 0).trans h.m0, (hz 1).trans h.m1, (hz 2).trans h.m2, ⟨g, c, (hz 3).trans e1, own_same o1 hs (by simp)⟩, ⟨g2, c2, rows, (hz 4).trans e2, own_same o2 hs (by simp), fun i hi => ?_⟩, Nat.lt_of_lt_of_le hl hk.size, fun i hi => ?_, h.ok, h.ne, h.fl, tag_same hs (by simp) h.tz, fun i hi => tag_same hs (by simp) (h.tb i hi)⟩
  · obtain ⟨h', d, e3, o3⟩ := r2 i hi
    have hc := (o2.cellAt i (by omega)).trans e3
    have hno := hn g2 c2 i h' d e2 hc hi
    refine ⟨h', d, e3, own_keepF o3 (fun b hb => ?_)⟩
    obtain rfl : h' = b := by simpa [Value.ownBlock] using hb
    exact hk.blk h' (o3.lt _ rfl).2 hno
  · have hb := h.bd i hi
    exact hb.blk hk.size (hs _ 327 (by simp) (h.tb i hi)) (hk.blk _ hb.f.lt (hf i hi).1) (hk.blk _ hb.t.lt (hf i hi).2)
/-- The rows of nearest nodes stay none of others'. -/
theorem NR.keep {S S' : Nat → Prop} {w w' : World} {z : Nat} {mn lw hi : Int} {k : Nat} {nb fm tm : Nat → Nat} {nd : Nat → Nd} {fr : Nat → List Nat} (h : NR z k S w) (hd : DZ w z mn lw hi k nb fm tm nd fr) (hs : Same [241, 38] w w') (hS : ∀ j, S' j → S j ∨ w.heap.size ≤ j) : NR z k S' w' := by
  intro g c i h' d e1 e2 hi hn
  have hz := cell_same hs (by simp) hd.tz 4
  obtain ⟨g2, c2, rows, e3, o2, r2⟩ := hd.cf
  rw [hz, e3] at e1
  simp only [Option.some.injEq, Value.slice.injEq, Addr.mk.injEq, and_true, true_and] at e1
  obtain ⟨rfl, rfl⟩ := e1
  obtain ⟨h2, d2, e4, o3⟩ := r2 i hi
  have hg : Tag w g2 38 := own_tag o2
  have hc := (o2.cellAt i (by omega)).trans e4
  rw [cell_same hs (by simp) hg i, hc] at e2
  simp only [Option.some.injEq, Value.slice.injEq, Addr.mk.injEq, and_true, true_and] at e2
  obtain ⟨rfl, rfl⟩ := e2
  rcases hS _ hn with h6 | h6
  · exact h g2 c2 i h2 d2 e3 hc hi h6
  · have h7 : h2 < w.heap.size := (o3.lt _ rfl).2
    omega
/-- A depot's fixed parts. -/
structure Dc where
  w0 : World
  N0 : Nat
  c : Nat
  z : Nat
  d : Nat
  g : Nat
  sz : Int
  m : Nat
  mn : Int
  lw : Int
  hi : Int
  k : Nat
  nb : Nat → Nat
  fm : Nat → Nat
  tm : Nat → Nat
  fr : Nat → List Nat
/-- What turns in a depot. -/
structure Ds where
  Q : Nat
  ss : List Sl
  nd : Nat → Nd
  ws : List (Nat × Nat)
  pl : List Nat
  ct : Nat → List Bl
/-- The depot in memory: others' rows U, others' maps X. -/
def DK (C : Dc) (U : Nat → Prop) (X : Nat → Option Obj) (S : Ds) (w : World) : Prop := DQ C.w0 C.N0 U X C.c C.z C.d C.g C.sz C.m C.mn C.lw C.hi C.k C.nb C.fm C.tm C.fr S.Q S.ss S.nd S.ws S.pl S.ct w
/-- The kinds that a depot reads, its rows of nearest nodes and of objects left out. -/
abbrev DKK : List TypeId := [241, 242, 38, 327, 248, 288, 300, 182, 175, 177, 286]
section
variable {C : Dc} {U U' : Nat → Prop} {X X' : Nat → Option Obj} {S : Ds} {T : Nat → Prop} {w w' : World}
theorem DK.b (h : DK C U X S w) (hb : Below w.heap.size w w') : DK C U X S w' := DQ.b h hb
/-- Others' blocks turn. -/
theorem DK.oth (h : DK C U X S w) (hk : Kp T w w') (hn : NR C.z C.k T w) (hlow : ∀ b, T b → C.w0.heap.size ≤ b)
    (hT : ∀ b, T b → U b ∨ (∃ o, X b = some o) ∨ ∃ t, Tag w b t ∧ t ≠ 34 ∧ t ∉ DKK)
    (hX : ∀ b o, X' b = some o → w'.heap[b]? = some o ∧ kind o = none ∧ ((∃ o', X b = some o') ∨ w.heap.size ≤ b))
    (hU : ∀ j, U' j → Tag w' j 34 ∧ (U j ∨ w.heap.size ≤ j)) : DK C U' X' S w' := by
  obtain ⟨ly, bs, q, f, rb, h1, h2, h3⟩ := DQ.ex h
  have hym := h1.c.ym
  have hno : ∀ b, T b → ∀ t ∈ DKK, ¬ Tag w b t := fun b hb t ht hg => by
    rcases hT b hb with e | ⟨o, e⟩ | ⟨t', g', n1, n2⟩
    · exact (DQ.uk h b e).ne hg (fun e => by subst e; simp at ht) rfl
    · exact kindless_ne (hym.lx b o e).1 (hym.lx b o e).2.1 hg rfl
    · exact g'.ne hg (fun e => n2 (e ▸ ht)) rfl
  have hmap : ∀ b o, w.heap[b]? = some o → kind o = none → (∀ o', X b = some o' → False) → ¬ T b := fun b o e1 e2 hx hb => by
    rcases hT b hb with e | ⟨o', e⟩ | ⟨t', g', _, _⟩
    · exact kindless_ne e1 e2 (DQ.uk h b e) rfl
    · exact hx o' e
    · exact kindless_ne e1 e2 g' rfl
  have hX0 : ∀ o, X ly.1 = some o → False := fun o e => (hym.lx ly.1 o e).2.2 rfl
  have hly : ¬ T ly.1 := hmap ly.1 _ hym.lm hym.lk hX0
  have hff : ∀ i, i < C.k → ¬ T (C.fm i) ∧ ¬ T (C.tm i) := fun i hi => by
    have hb := h1.d.bd i hi
    obtain ⟨⟨es, clock, e1, _⟩, _, _⟩ := hb.f
    obtain ⟨⟨es2, clock2, e2, _⟩, _, _⟩ := hb.t
    exact ⟨hmap _ _ e1 rfl (fun o e => (h1.ml i hi _ (Or.inr ⟨o, e⟩)).1 rfl), hmap _ _ e2 rfl (fun o e => (h1.ml i hi _ (Or.inr ⟨o, e⟩)).2 rfl)⟩
  have hsame : ∀ (ts : List TypeId), (∀ t ∈ ts, t ∈ DKK) → Same ts w w' := fun ts hts b t hm ht => hk.blk b ht.lt (fun hb => hno b hb t (hts t hm) ht)
  have hsz := hk.size
  have D' := dz_oth h1.d hk (fun b hb t ht => hno b hb t ((show ∀ t ∈ ([241, 242, 38, 327] : List TypeId), t ∈ DKK by decide) t ht)) hn hff
  have hx' : ∀ j, Lk (ly.1, ly.2, X') j → j = ly.1 ∨ (∃ o, X j = some o) ∨ w.heap.size ≤ j := fun j hj => by
    rcases hj with e | ⟨o, e⟩
    · exact Or.inl e
    · exact Or.inr (hX j o e).2.2
  obtain ⟨p, dd, e2, o2⟩ := h1.c.c2
  have hs3 : Same [248, 288, 300] w w' := hsame _ (by decide)
  have hc := fun j => cell_same hs3 (by simp) h1.c.tg j
  have C' : DC C.N0 w' C.c C.z (ly.1, ly.2, X') C.sz C.m bs S.ss := ⟨(hc 0).trans h1.c.c0, (hc 1).trans h1.c.c1, ⟨p, dd, (hc 2).trans e2, own_same o2 hs3 (by simp)⟩, tag_same hs3 (by simp) h1.c.tg, h1.c.ge, h1.c.bg, h1.c.len, h1.c.nd, fun i b s h5 h6 => (h1.c.sl i b s h5 h6).same (hs3 b 300 (by simp) (h1.c.sl i b s h5 h6).tg), h1.c.ok, h1.c.so, fun o => (World.frozen?_of_block (w := w) (a := ⟨C.c, o, none⟩) (hs3 C.c 248 (by simp) h1.c.tg)).trans (h1.c.cf o), h1.c.mm, ⟨(hc 3).trans hym.c3, (hk.blk _ hym.lt hly).trans hym.lm, hym.lk, hym.lg, fun j o e => ⟨(hX j o e).1, (hX j o e).2.1, fun ej => by
    rcases (hX j o e).2.2 with ⟨o', h5⟩ | h5
    · exact (hym.lx j o' h5).2.2 ej
    · have h6 : ly.1 < w.heap.size := hym.lt
      have h7 : j = ly.1 := ej
      omega⟩⟩⟩
  have P' : PS C.N0 w' C.c C.z (ly.1, ly.2, X') C.sz C.m bs S.ss C.mn C.lw C.hi C.k C.nb C.fm C.tm S.nd C.fr := ⟨D', C', h1.ow, h1.mf, h1.k4, fun i hi j hj => by
    rcases hx' j hj with e | ⟨o, e⟩ | e
    · exact h1.ml i hi j (Or.inl e)
    · exact h1.ml i hi j (Or.inr ⟨o, e⟩)
    · have hb := h1.d.bd i hi
      have h5 := hb.f.lt
      have h6 := hb.t.lt
      omega⟩
  have hrow : ∀ t ∈ trs S.ws S.pl, ¬ T t ∧ ¬ T (rb t) := fun t ht => by
    have hT' := h2.tr t ht
    refine ⟨fun hb => hno t hb 286 (by simp) hT'.tg, fun hb => ?_⟩
    rcases hT'.row with e | e
    · rw [e] at hb; exact hno t hb 286 (by simp) hT'.tg
    · rcases hT _ hb with e5 | ⟨o, e5⟩ | ⟨t', g', n1, n2⟩
      · exact h2.ru t ht e5
      · exact kindless_ne (hym.lx _ o e5).1 (hym.lx _ o e5).2.1 e.1 rfl
      · exact g'.ne e.1 n1 rfl
  have T' : TS C.N0 U' w' C.c ly.1 q f (trs S.ws S.pl) rb S.ct := (h2.same (fun t ht => hk.blk _ (h2.tr t ht).tg.lt (hrow t ht).1) (hk.blk _ h2.ml.lt hly) (fun t ht => hk.blk _ (h2.tr t ht).rlt (hrow t ht).2)).others (fun t ht hv => by
    rcases (hU _ hv).2 with e | e
    · exact e
    · have := (h2.tr t ht).rlt; omega)
  refine ⟨⟨hk.os.trans (DQ.b0 h).os, hk.tape.trans (DQ.b0 h).tape, hk.output.trans (DQ.b0 h).output, Nat.le_trans (DQ.b0 h).size hk.size, fun j hj => (hk.blk j (Nat.lt_of_lt_of_le hj (DQ.b0 h).size) (fun hb => by have := hlow j hb; omega)).trans ((DQ.b0 h).block j hj)⟩, ⟨ly, bs, q, f, rb, P', T', h3⟩, (DQ.db h).same (hsame _ (by decide)), DQ.pf h, DQ.tk h, fun j hj => (hU j hj).1, fun j hj => ?_, DQ.pq h⟩
  rcases (hU j hj).2 with e | e
  · exact DQ.ul h j e
  · exact Nat.le_trans (DQ.b0 h).size e
/-- Others' maps stand as they are told. -/
theorem DK.map (h : DK C U X S w) {j : Nat} {o : Obj} (e : X j = some o) : w.heap[j]? = some o ∧ kind o = none := by
  obtain ⟨ly, bs, q, f, rb, h1, h2, h3⟩ := DQ.ex h
  exact ⟨(h1.c.ym.lx j o e).1, (h1.c.ym.lx j o e).2.1⟩
theorem DK.dz (h : DK C U X S w) : DZ w C.z C.mn C.lw C.hi C.k C.nb C.fm C.tm S.nd C.fr := by
  obtain ⟨ly, bs, q, f, rb, h1, h2, h3⟩ := DQ.ex h
  exact h1.d
end
end Pl
end Go.Proofs.YtcbmfakjfoggaaaGreatDoor
namespace Go.Proofs.YtcbmfakjfoggaaaGreatDoor
open Go.RowKit Go.Maps
namespace Pl
open Fr Bd Zn Dz Sb Mg
theorem unit0 (w : World) : (zeroValue 151).run Tryz.prog w = .ok (.agg #[]) w := by kernel_rfl
theorem obj0 (w : World) : (zeroValue 34).run Tryz.prog w = .ok (.agg #[.int .i64 0, .int .i64 0]) w := by kernel_rfl
/-- A map's objects: those of a list. -/
structure Mo (w : World) (mb q : Nat) (T : List Bl) : Prop where
  own : ∃ D, w.ownsMap (H := Unit) Tryz.prog 34 unitElem mb q D ∧ (∀ a b, W2 a b → Maps.has D (okl a b) = decide ((a, b) ∈ T)) ∧ Maps.size D = T.length
  wf : ∀ o ∈ T, W2 o.1 o.2
  nd : T.Nodup
section
variable {w w' : World} {mb q : Nat} {T : List Bl}
theorem Mo.lt (h : Mo w mb q T) : mb < w.heap.size := by
  obtain ⟨D, h1, _⟩ := h.own
  exact h1.lt
theorem Mo.blk (h : Mo w mb q T) (hb : w'.heap[mb]? = w.heap[mb]?) : Mo w' mb q T := by
  obtain ⟨D, ⟨es, clock, h1, h2⟩, h3⟩ := h.own
  exact ⟨⟨D, ⟨es, clock, hb.trans h1, h2⟩, h3⟩, h.wf, h.nd⟩
theorem Mo.kindless (h : Mo w mb q T) : ∃ o, w.heap[mb]? = some o ∧ kind o = none := by
  obtain ⟨D, ⟨es, clock, h1, _⟩, _⟩ := h.own
  exact ⟨_, h1, rfl⟩
theorem Mo.b (h : Mo w mb q T) (hb : Below w.heap.size w w') : Mo w' mb q T := h.blk (hb.block _ h.lt)
theorem Mo.made (w : World) : Mo (w.alloc (.map #[] 0)) w.heap.size 0 [] := ⟨⟨.map [], World.ownsMap_made w Tryz.prog 34 unitElem, fun _ _ _ => by simp [Maps.has], rfl⟩, fun _ h => (by cases h), List.nodup_nil⟩
theorem Mo.look (h : Mo w mb q T) {a b : Int} (hw : W2 a b) : (Instr.lookup 141 (.map (some mb)) (.agg #[.int .i64 a, .int .i64 b]) true).run Tryz.prog w = .ok (.tuple #[.agg #[], .bool (decide ((a, b) ∈ T))]) w := by
  obtain ⟨D, h1, h2, _⟩ := h.own
  obtain ⟨v, ps, hr, hv⟩ := h1.look_ok keyed42 Tryz.underlying141 (unit0 w) unitElem_mk (key42 hw.1 hw.2)
  obtain ⟨rfl, _⟩ := unitElem_inv hv
  have e := h2 a b hw
  unfold okl at e
  rw [hr, e]
theorem Mo.lookN (h : Mo w mb q T) {a b : Int} (hw : W2 a b) (n : Nat) : (Instr.lookup 141 (.map (some mb)) (.agg #[.int .i64 a, .int .i64 b]) true).run Tryz.prog (w.drewN n) = .ok (.tuple #[.agg #[], .bool (decide ((a, b) ∈ T))]) (w.drewN n) := (h.b (bdN (Below.refl _ _) n)).look hw
theorem Mo.congr (h : Mo w mb q T) {T' : List Bl} (hp : T'.Perm T) : Mo w mb q T' := by
  obtain ⟨D, h1, h2, h3⟩ := h.own
  exact ⟨⟨D, h1, fun a b hw => by rw [h2 a b hw]; simp only [hp.mem_iff], by rw [h3, hp.length_eq]⟩, fun o ho => h.wf o (hp.mem_iff.1 ho), hp.nodup_iff.2 h.nd⟩
/-- An object more. -/
theorem Mo.put (h : Mo w mb q T) (hq : q < maxLen) {a b : Int} (hw : W2 a b) (hn : (a, b) ∉ T) : ∃ w', (Instr.mapUpdate 141 (.map (some mb)) (.agg #[.int .i64 a, .int .i64 b]) (.agg #[])).run Tryz.prog w = .ok () w' ∧ Mo w' mb (q + 1) (T ++ [(a, b)]) ∧ Kept mb mb w w' := by
  obtain ⟨D, h1, h2, h3⟩ := h.own
  obtain ⟨w', hr, h4, h5⟩ := h1.store keyed42 Tryz.underlying141 hq (key42 hw.1 hw.2) (unitElem_mk (H := Unit))
  refine ⟨w', hr, ⟨⟨_, h4, fun x y hx => ?_, ?_⟩, fun o ho => ?_, ?_⟩, kept_turned h5 (Or.inl rfl)⟩
  · by_cases e : x = a ∧ y = b
    · obtain ⟨rfl, rfl⟩ := e
      rw [show okl x y = Lit.string (keyBytes [.int .i64 x, .int .i64 y]) from rfl, has_put_same h1.isMap (keyed42.key (key42 hw.1 hw.2))]
      simp
    · refine (has_put_other (k := okl a b) (fun e2 => e (okl_inj hx hw e2)) _).trans ((h2 x y hx).trans ?_)
      have e3 : ¬ ((x, y) = (a, b)) := fun e4 => e (Prod.mk.inj e4)
      simp [e3]
  · rw [size_put (h1.tidy keyed42), show Maps.has D (Lit.string (keyBytes [.int .i64 a, .int .i64 b])) = false from by have := h2 a b hw; rw [show Lit.string (keyBytes [.int .i64 a, .int .i64 b]) = okl a b from rfl, this]; simpa using hn, h3]
    simp
  · rcases List.mem_append.1 ho with h6 | h6
    · exact h.wf o h6
    · simp only [List.mem_cons, List.not_mem_nil, or_false] at h6
      rw [h6]; exact hw
  · refine List.nodup_append.2 ⟨h.nd, by simp, fun x hx y hy e => ?_⟩
    simp only [List.mem_cons, List.not_mem_nil, or_false] at hy
    exact hn (by rw [← hy, ← e]; exact hx)
/-- An object less. -/
theorem Mo.drop (h : Mo w mb q T) {a b : Int} (hw : W2 a b) (hn : (a, b) ∈ T) (ty : TypeId) : ∃ w', (Builtin.delete_ #[141, 34] ty #[.map (some mb), .agg #[.int .i64 a, .int .i64 b]]).run Tryz.prog w = .ok (.tuple #[]) w' ∧ Mo w' mb q (T.erase (a, b)) ∧ Kept mb mb w w' := by
  obtain ⟨D, h1, h2, h3⟩ := h.own
  obtain ⟨w', hr, h4, h5⟩ := h1.drop keyed42 Tryz.underlying141 (key42 hw.1 hw.2) ty
  refine ⟨w', hr, ⟨⟨_, h4, fun x y hx => ?_, ?_⟩, fun o ho => h.wf o (List.mem_of_mem_erase ho), h.nd.erase _⟩, kept_turned h5 (Or.inl rfl)⟩
  · by_cases e : x = a ∧ y = b
    · obtain ⟨rfl, rfl⟩ := e
      rw [show okl x y = Lit.string (keyBytes [.int .i64 x, .int .i64 y]) from rfl, has_del_same]
      have : (x, y) ∉ T.erase (x, y) := h.nd.not_mem_erase
      simp [this]
    · refine (has_del_other (k := okl a b) (fun e2 => e (okl_inj hx hw e2))).trans ((h2 x y hx).trans ?_)
      have e3 : ((x, y) : Bl) ≠ (a, b) := fun e4 => e (Prod.mk.inj e4)
      simp only [List.mem_erase_of_ne e3]
  · have h6 := size_del (k := Lit.string (keyBytes [.int .i64 a, .int .i64 b])) (h1.tidy keyed42)
    rw [show Maps.has D (Lit.string (keyBytes [.int .i64 a, .int .i64 b])) = true from by have := h2 a b hw; rw [show Lit.string (keyBytes [.int .i64 a, .int .i64 b]) = okl a b from rfl, this]; simpa using hn, if_pos rfl, h3] at h6
    rw [List.length_erase_of_mem hn]
    omega
theorem Mo.len (h : Mo w mb q T) (ty : TypeId) : (Builtin.len_ #[141] ty #[.map (some mb)]).run Tryz.prog w = .ok (.int .i64 T.length) w := by
  obtain ⟨D, h1, h2, h3⟩ := h.own
  rw [h1.len Tryz.underlying141, h3]
end
/-- How an object in a map reads. -/
def objE : Value → Option (DataW Unit × List MemPlace)
  | .agg ⟨[.int .i64 a, .int .i64 b]⟩ => some (.agg [.lit (.int .i64 a), .lit (.int .i64 b)], [])
  | _ => none
def objD (o : Bl) : DataW Unit := .agg [.lit (.int .i64 o.1), .lit (.int .i64 o.2)]
theorem objE_mk (a b : Int) : objE (.agg #[.int .i64 a, .int .i64 b]) = some (objD (a, b), []) := rfl
theorem objE_inv {v : Value} {o : Bl} {ps : List MemPlace} (h : objE v = some (objD o, ps)) : v = .agg #[.int .i64 o.1, .int .i64 o.2] := by
  unfold objE at h
  split at h
  · rename_i a b
    simp only [objD, Option.some.injEq, Prod.mk.injEq, DataW.agg.injEq, List.cons.injEq, DataW.lit.injEq, Lit.int.injEq, true_and, and_true] at h
    obtain ⟨⟨rfl, rfl⟩, _⟩ := h
    rfl
  · cases h
/-- What stands for a ticket. -/
def yget (Y : List (Nat × Bl)) (t : Int) : Option Bl := (Y.find? (fun x => decide ((x.1 : Int) = t))).map (·.2)
/-- A map of what is ready, by tickets. -/
structure My (w : World) (mb q : Nat) (Y : List (Nat × Bl)) : Prop where
  own : ∃ D, w.ownsMap (H := Unit) Tryz.prog 3 objE mb q D ∧ (∀ t, (Lit.int .i64 t).wf = true → Maps.has D (.int .i64 t) = (yget Y t).isSome ∧ D.atKey (.int .i64 t) (objD (0, 0)) = objD ((yget Y t).getD (0, 0))) ∧ Maps.size D = Y.length
  nd : (Y.map (·.1)).Nodup
section
variable {w w' : World} {mb q : Nat} {Y : List (Nat × Bl)}
theorem My.lt (h : My w mb q Y) : mb < w.heap.size := by
  obtain ⟨D, h1, _⟩ := h.own
  exact h1.lt
theorem My.blk (h : My w mb q Y) (hb : w'.heap[mb]? = w.heap[mb]?) : My w' mb q Y := by
  obtain ⟨D, ⟨es, clock, h1, h2⟩, h3⟩ := h.own
  exact ⟨⟨D, ⟨es, clock, hb.trans h1, h2⟩, h3⟩, h.nd⟩
theorem My.b (h : My w mb q Y) (hb : Below w.heap.size w w') : My w' mb q Y := h.blk (hb.block _ h.lt)
theorem My.kindless (h : My w mb q Y) : ∃ o, w.heap[mb]? = some o ∧ kind o = none := by
  obtain ⟨D, ⟨es, clock, h1, _⟩, _⟩ := h.own
  exact ⟨_, h1, rfl⟩
theorem My.made (w : World) : My (w.alloc (.map #[] 0)) w.heap.size 0 [] := ⟨⟨.map [], World.ownsMap_made w Tryz.prog 3 objE, fun _ _ => ⟨rfl, rfl⟩, rfl⟩, List.nodup_nil⟩
theorem My.look (h : My w mb q Y) {t : Int} (hw : (Lit.int .i64 t).wf = true) : (Instr.lookup 142 (.map (some mb)) (.int .i64 t) true).run Tryz.prog w = .ok (.tuple #[.agg #[.int .i64 ((yget Y t).getD (0, 0)).1, .int .i64 ((yget Y t).getD (0, 0)).2], .bool (yget Y t).isSome]) w := by
  obtain ⟨D, h1, h2, _⟩ := h.own
  obtain ⟨v, ps, hr, hv⟩ := h1.look_ok law Tryz.underlying142 (obj0 w) (objE_mk 0 0) (keyOf_int_mk Tryz.underlying3 hw)
  rw [(h2 t hw).2] at hv
  rw [hr, (h2 t hw).1, objE_inv hv]
theorem My.len (h : My w mb q Y) (ty : TypeId) : (Builtin.len_ #[142] ty #[.map (some mb)]).run Tryz.prog w = .ok (.int .i64 Y.length) w := by
  obtain ⟨D, h1, h2, h3⟩ := h.own
  rw [h1.len Tryz.underlying142, h3]
theorem yget_app {t : Nat} (o : Bl) (h : t ∉ Y.map (·.1)) (s : Int) : yget (Y ++ [(t, o)]) s = if s = t then some o else yget Y s := by
  unfold yget
  rw [List.find?_append]
  by_cases e : s = t
  · subst e
    have : Y.find? (fun x => decide ((x.1 : Int) = (t : Int))) = none := List.find?_eq_none.2 fun x hx => by
      have : x.1 ≠ t := fun e => h (e ▸ List.mem_map_of_mem hx)
      simp; omega
    rw [this]; simp
  · rw [if_neg e]
    have e2 : ¬ ((t : Int) = s) := fun e3 => e e3.symm
    simp [e2]
/-- One more is ready. -/
theorem My.put (h : My w mb q Y) (hq : q < maxLen) {t : Nat} (hw : (Lit.int .i64 (t : Int)).wf = true) (a b : Int) (hn : t ∉ Y.map (·.1)) : ∃ w', (Instr.mapUpdate 142 (.map (some mb)) (.int .i64 t) (.agg #[.int .i64 a, .int .i64 b])).run Tryz.prog w = .ok () w' ∧ My w' mb (q + 1) (Y ++ [(t, (a, b))]) ∧ Kept mb mb w w' := by
  obtain ⟨D, h1, h2, h3⟩ := h.own
  obtain ⟨w', hr, h4, h5⟩ := h1.store law Tryz.underlying142 hq (keyOf_int_mk Tryz.underlying3 hw) (objE_mk a b)
  have hno : yget Y t = none := by
    unfold yget
    rw [List.find?_eq_none.2 fun x hx => by
      have : x.1 ≠ t := fun e => hn (e ▸ List.mem_map_of_mem hx)
      simp; omega]
    rfl
  refine ⟨w', hr, ⟨⟨_, h4, fun s hs => ?_, ?_⟩, ?_⟩, kept_turned h5 (Or.inl rfl)⟩
  · rw [yget_app _ hn]
    by_cases e : s = t
    · subst e
      rw [if_pos rfl, has_put_same h1.isMap (law.key (keyOf_int_mk Tryz.underlying3 hw)), atKey_put_same h1.isMap (law.key (keyOf_int_mk Tryz.underlying3 hw))]
      exact ⟨rfl, rfl⟩
    · have e2 : Lit.int .i64 s ≠ Lit.int .i64 (t : Int) := fun e3 => e (by simpa using e3)
      rw [if_neg e, has_put_other e2, atKey_put_other e2]
      exact h2 s hs
  · rw [size_put (h1.tidy law), (h2 t hw).1, hno, h3]
    simp
  · rw [List.map_append]
    refine List.nodup_append.2 ⟨h.nd, by simp, fun x hx y hy e => ?_⟩
    simp only [List.map_cons, List.map_nil, List.mem_cons, List.not_mem_nil, or_false] at hy
    exact hn (by rw [← hy, ← e]; exact hx)
/-- What was ready for a ticket is fetched. -/
def ydel (Y : List (Nat × Bl)) (t : Int) : List (Nat × Bl) := Y.filter (fun x => decide ((x.1 : Int) ≠ t))
theorem yget_del (t s : Int) : yget (ydel Y t) s = if s = t then none else yget Y s := by
  unfold yget ydel
  by_cases e : s = t
  · subst e
    rw [if_pos rfl, List.find?_eq_none.2 fun x hx => by
      have := (List.mem_filter.1 hx).2
      simpa using this]
    rfl
  · rw [if_neg e]
    congr 1
    exact find_filter_keep (fun p hp => by simp only [decide_eq_true_eq] at hp ⊢; omega) Y
theorem ydel_none {t : Int} (h : yget Y t = none) : ydel Y t = Y := by
  unfold ydel
  refine List.filter_eq_self.2 fun x hx => ?_
  unfold yget at h
  have h2 := List.find?_eq_none.1 (Option.map_eq_none_iff.1 h) x hx
  simpa using h2
theorem ydel_len (hn : (Y.map (·.1)).Nodup) {t : Int} (h : (yget Y t).isSome = true) : (ydel Y t).length + 1 = Y.length := by
  induction Y with
  | nil => simp [yget] at h
  | cons x l ih =>
    rw [List.map_cons, List.nodup_cons] at hn
    by_cases e : (x.1 : Int) = t
    · have : ydel l t = l := ydel_none (by
        unfold yget
        rw [List.find?_eq_none.2 fun y hy => by
          have : y.1 ≠ x.1 := fun e2 => hn.1 (e2 ▸ List.mem_map_of_mem hy)
          simp; omega]
        rfl)
      unfold ydel at this ⊢
      rw [List.filter_cons, if_neg (by simpa using e), this, List.length_cons]
    · have h2 : (yget l t).isSome = true := by
        unfold yget at h ⊢
        rw [List.find?_cons] at h
        have : decide ((x.1 : Int) = t) = false := by simpa using e
        rw [this] at h
        exact h
      have h3 := ih hn.2 h2
      unfold ydel at h3 ⊢
      rw [List.filter_cons, if_pos (by simpa using e), List.length_cons, List.length_cons]
      omega
theorem My.drop (h : My w mb q Y) {t : Int} (hw : (Lit.int .i64 t).wf = true) (ty : TypeId) : ∃ w', (Builtin.delete_ #[142, 3] ty #[.map (some mb), .int .i64 t]).run Tryz.prog w = .ok (.tuple #[]) w' ∧ My w' mb q (ydel Y t) ∧ Kept mb mb w w' := by
  obtain ⟨D, h1, h2, h3⟩ := h.own
  obtain ⟨w', hr, h4, h5⟩ := h1.drop law Tryz.underlying142 (keyOf_int_mk Tryz.underlying3 hw) ty
  refine ⟨w', hr, ⟨⟨_, h4, fun s hs => ?_, ?_⟩, ?_⟩, kept_turned h5 (Or.inl rfl)⟩
  · rw [yget_del]
    by_cases e : s = t
    · subst e
      rw [if_pos rfl, has_del_same, atKey_del_same]
      exact ⟨rfl, rfl⟩
    · have e2 : Lit.int .i64 s ≠ Lit.int .i64 t := fun e3 => e (by simpa using e3)
      rw [if_neg e, has_del_other e2, atKey_del_other e2]
      exact h2 s hs
  · have h6 := size_del (k := Lit.int .i64 t) (h1.tidy law)
    rw [(h2 t hw).1, h3] at h6
    cases hy : yget Y t with
    | none =>
      rw [hy] at h6
      rw [ydel_none hy]
      simpa using h6
    | some o =>
      rw [hy] at h6
      have := ydel_len h.nd (t := t) (by rw [hy]; rfl)
      simp at h6
      omega
  · exact h.nd.sublist (List.filter_sublist.map _)
end
end Pl
end Go.Proofs.YtcbmfakjfoggaaaGreatDoor
