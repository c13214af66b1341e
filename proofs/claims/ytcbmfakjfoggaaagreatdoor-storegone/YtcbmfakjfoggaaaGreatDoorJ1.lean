/- A store in memory: its block, its map, its blocks and their bytes; what package store does. -/
import Derived.Test.YtcbmfakjfoggaaaGreatDoorH12
import Derived.Test.YtcbmfakjfoggaaaGreatDoorH15
import Derived.Test.YtcbmfakjfoggaaaGreatDoorH00
import Derived.Lib.UnsafeStr
import Derived.Test.YtcbmfakjfoggaaaGreatDoorH24
import Derived.Laws.IdiomStrings
import Derived.Lib.BufferWrite
import Derived.Lib.SlBuf
import Derived.Test.YtcbmfakjfoggaaaGreatDoorH26
import Derived.Laws.OwnMore
import Derived.BigRegion
import Derived.Laws.CopyRow
namespace Go.Proofs.YtcbmfakjfoggaaaGreatDoor
open Go.RowKit Go.Maps
namespace Pl
open Fr Bd Zn Dz Sb Mg
theorem zero190 (w : World) : (zeroValue 190).run Tryz.prog w = .ok (L8 none) w := by kernel_rfl
def upI (f : Int → Option Nat) (t : Int) (v : Option Nat) : Int → Option Nat := fun x => if x = t then v else f x
theorem upI_at (f : Int → Option Nat) (t : Int) (v : Option Nat) : upI f t v t = v := by simp [upI]
theorem upI_ne {f : Int → Option Nat} {t x : Int} (h : x ≠ t) (v : Option Nat) : upI f t v x = f x := by simp [upI, h]
structure Mi9 (w : World) (mb q : Nat) (f : Int → Option Nat) (n : Nat) : Prop where
  own : ∃ ab8, w.ownsMap (H := Unit) Tryz.prog 3 YK mb q ab8 ∧ (∀ t, (Lit.int .i64 t).wf = true → Maps.has ab8 (.int .i64 t) = (f t).isSome ∧ ab8.atKey (.int .i64 t) (L9 none) = L9 (f t)) ∧ Maps.size ab8 = n
section
variable {w w' : World} {mb q n : Nat} {f : Int → Option Nat}
theorem Mi9.lt (h : Mi9 w mb q f n) : mb < w.heap.size := by
  obtain ⟨ab8, G, _⟩ := h.own
  exact G.lt
theorem Mi9.blk (h : Mi9 w mb q f n) (J : w'.heap[mb]? = w.heap[mb]?) : Mi9 w' mb q f n := by
  obtain ⟨ab8, ⟨es, clock, G, O⟩, h3⟩ := h.own
  exact ⟨ab8, ⟨es, clock, J.trans G, O⟩, h3⟩
theorem Mi9.b (h : Mi9 w mb q f n) (J : Below w.heap.size w w') : Mi9 w' mb q f n := h.blk (J.block _ h.lt)
theorem Mi9.aQ (h : Mi9 w mb q f n) : ∃ o, w.heap[mb]? = some o ∧ kind o = none := by
  obtain ⟨ab8, ⟨es, clock, G, _⟩, _⟩ := h.own
  exact ⟨_, G, rfl⟩
theorem Mi9.made (w : World) : Mi9 (w.alloc (.map #[] 0)) w.heap.size 0 (fun _ => none) 0 := ⟨.map [], World.ownsMap_made w Tryz.prog 3 YK, fun _ _ => ⟨rfl, rfl⟩, rfl⟩
theorem Mi9.look (h : Mi9 w mb q f n) {t : Int} (hw : (Lit.int .i64 t).wf = true) : (Instr.lookup 187 (.map (some mb)) (.int .i64 t) false).run Tryz.prog w = .ok (L8 (f t)) w := by
  obtain ⟨ab8, G, O, _⟩ := h.own
  obtain ⟨v, ps, hr, hv⟩ := G.lookup law Tryz.underlying187 (zero190 w) (OU none) (keyOf_int_mk Tryz.underlying3 hw)
  rw [(O t hw).2] at hv
  rw [L_ hv] at hr
  exact hr
theorem Mi9.OV (h : Mi9 w mb q f n) {t : Int} (hw : (Lit.int .i64 t).wf = true) (k : Nat) : (Instr.lookup 187 (.map (some mb)) (.int .i64 t) false).run Tryz.prog (w.drewN k) = .ok (L8 (f t)) (w.drewN k) := (h.b (iB (Below.refl _ _) k)).look hw
theorem Mi9.len (h : Mi9 w mb q f n) (ty : TypeId) : (Builtin.len_ #[187] ty #[.map (some mb)]).run Tryz.prog w = .ok (.int .i64 n) w := by
  obtain ⟨ab8, G, _, h3⟩ := h.own
  rw [G.len Tryz.underlying187, h3]
theorem Mi9.put (h : Mi9 w mb q f n) (hq : q < maxLen) {t : Int} (hw : (Lit.int .i64 t).wf = true) (hn : f t = none) (b : Nat) : ∃ w', (Instr.mapUpdate 187 (.map (some mb)) (.int .i64 t) (.pointer (some ⟨b, 0, none⟩))).run Tryz.prog w = .ok () w' ∧ Mi9 w' mb (q + 1) (upI f t (some b)) (n + 1) ∧ Kept mb mb w w' := by
  obtain ⟨ab8, G, O, h3⟩ := h.own
  obtain ⟨w', hr, h4, h5⟩ := G.store law Tryz.underlying187 hq (keyOf_int_mk Tryz.underlying3 hw) (OU (some b))
  refine ⟨w', hr, ⟨_, h4, fun s hs => ?_, ?_⟩, fC h5 (Or.inl rfl)⟩
  · by_cases e : s = t
    · subst e
      rw [upI_at, has_put_same G.isMap (law.key (keyOf_int_mk Tryz.underlying3 hw)), atKey_put_same G.isMap (law.key (keyOf_int_mk Tryz.underlying3 hw))]
      exact ⟨rfl, rfl⟩
    · have e2 : Lit.int .i64 s ≠ Lit.int .i64 t := fun e3 => e (by simpa using e3)
      rw [upI_ne e, has_put_other e2, atKey_put_other e2]
      exact O s hs
  · rw [size_put (G.tidy law), (O t hw).1, hn, h3]
    rfl
theorem Mi9.drop (h : Mi9 w mb q f n) {t : Int} (hw : (Lit.int .i64 t).wf = true) (hs : (f t).isSome = true) (ty : TypeId) : ∃ w', (Builtin.delete_ #[187, 3] ty #[.map (some mb), .int .i64 t]).run Tryz.prog w = .ok (.tuple #[]) w' ∧ Mi9 w' mb q (upI f t none) (n - 1) ∧ Kept mb mb w w' := by
  obtain ⟨ab8, G, O, h3⟩ := h.own
  obtain ⟨w', hr, h4, h5⟩ := G.drop law Tryz.underlying187 (keyOf_int_mk Tryz.underlying3 hw) ty
  refine ⟨w', hr, ⟨_, h4, fun s hs => ?_, ?_⟩, fC h5 (Or.inl rfl)⟩
  · by_cases e : s = t
    · subst e
      rw [upI_at, has_del_same, atKey_del_same]
      exact ⟨rfl, rfl⟩
    · have e2 : Lit.int .i64 s ≠ Lit.int .i64 t := fun e3 => e (by simpa using e3)
      rw [upI_ne e, has_del_other e2, atKey_del_other e2]
      exact O s hs
  · have h6 := size_del (k := Lit.int .i64 t) (G.tidy law)
    rw [(O t hw).1, hs, if_pos rfl, h3] at h6
    omega
end
end Pl
end Go.Proofs.YtcbmfakjfoggaaaGreatDoor
namespace Go.Proofs.YtcbmfakjfoggaaaGreatDoor
open Go.RowKit Go.Maps
namespace Pl
open Fr Bd Zn Dz Sb Mg
structure Bs where
  o : Bl
  l : List UInt8
  n : Nat
  q : Nat
def bsV (x : Bs) : Value := .slice (some ⟨x.q, 0, none⟩) x.l.length x.l.length
structure Bk9 (w : World) (b : Nat) (x : Bs) : Prop where
  c0 : w.cell? ⟨b, 0, none⟩ = some (.int .i64 x.o.1)
  c1 : w.cell? ⟨b, 1, none⟩ = some (.int .i64 x.o.2)
  c2 : w.cell? ⟨b, 2, none⟩ = some (bsV x)
  c3 : w.cell? ⟨b, 3, none⟩ = some (.int .i64 x.n)
  tg : Tag w b 192
  fz : ∀ o, w.frozen? ⟨b, o, none⟩ = false
  r : w.heap[x.q]? = some (.cells (Lib.byteCells x.l).toArray 5 (0, 0))
section
variable {w w' : World} {d : Nat} {x : Bs}
theorem Bk9.keep (h : Bk9 w d x) (G : w'.heap[d]? = w.heap[d]?) (O : w'.heap[x.q]? = w.heap[x.q]?) : Bk9 w' d x := by
  have K := fun j => World.cell?_of_block (w := w) (a := ⟨d, j, none⟩) G
  exact ⟨(K 0).trans h.c0, (K 1).trans h.c1, (K 2).trans h.c2, (K 3).trans h.c3, h.tg.blk G, fun o => (World.frozen?_of_block (w := w) (a := ⟨d, o, none⟩) G).trans (h.fz o), O.trans h.r⟩
theorem Bk9.rt (h : Bk9 w d x) : Tag w x.q 5 := ⟨_, _, h.r⟩
theorem Bk9.b (h : Bk9 w d x) (J : Below w.heap.size w w') : Bk9 w' d x := h.keep (J.block d h.tg.lt) (J.block x.q h.rt.lt)
theorem Bk9.ne (h : Bk9 w d x) : d ≠ x.q := h.tg.ne h.rt (by decide)
end
structure Ss9 where
  ws : Nat
  sz : Nat
  last : Nat
  q : Nat
  n : Nat
  f : Int → Option Nat
  g : Nat → Bs
structure SM9 (B : Nat) (w : World) (s p m : Nat) (S : Ss9) : Prop where
  c0 : w.cell? ⟨s, 0, none⟩ = some (.pointer (some ⟨p, 0, none⟩))
  c1 : w.cell? ⟨s, 1, none⟩ = some (.int .i64 S.ws)
  c2 : w.cell? ⟨s, 2, none⟩ = some (.int .i64 S.sz)
  c3 : w.cell? ⟨s, 3, none⟩ = some (.map (some m))
  c4 : w.cell? ⟨s, 4, none⟩ = some (.int .i64 S.last)
  tg : Tag w s 189
  fz : ∀ o, w.frozen? ⟨s, o, none⟩ = false
  mi : Mi9 w m S.q S.f S.n
  k : ∀ t b, S.f t = some b → Bk9 w b (S.g b) ∧ B ≤ b ∧ B ≤ (S.g b).q ∧ 1 ≤ t ∧ t ≤ S.last ∧ (S.g b).l.length = S.sz ∧ 1 ≤ (S.g b).n ∧ (S.g b).n ≤ 16
  inj : ∀ t t' b, S.f t = some b → S.f t' = some b → t = t'
  rows : ∀ t t' b b', S.f t = some b → S.f t' = some b' → (S.g b).q = (S.g b').q → b = b'
  ge : B ≤ s ∧ B ≤ m
  sz1 : 1 ≤ S.sz ∧ S.sz ≤ 64
  lst : S.last ≤ 1000000
def SO (s m : Nat) (S : Ss9) (j : Nat) : Prop := j = s ∨ j = m ∨ (∃ t, S.f t = some j) ∨ ∃ t b, S.f t = some b ∧ j = (S.g b).q
section
variable {B : Nat} {w w' : World} {s p m : Nat} {S : Ss9}
theorem SM9.keep (h : SM9 B w s p m S) (J : ∀ j, SO s m S j → w'.heap[j]? = w.heap[j]?) : SM9 B w' s p m S := by
  have h0 := J s (Or.inl rfl)
  have K := fun j => World.cell?_of_block (w := w) (a := ⟨s, j, none⟩) h0
  exact { h with
    c0 := (K 0).trans h.c0, c1 := (K 1).trans h.c1, c2 := (K 2).trans h.c2, c3 := (K 3).trans h.c3, c4 := (K 4).trans h.c4
    tg := h.tg.blk h0
    fz := fun o => (World.frozen?_of_block (w := w) (a := ⟨s, o, none⟩) h0).trans (h.fz o)
    mi := h.mi.blk (J m (Or.inr (Or.inl rfl)))
    k := fun t b e => ⟨(h.k t b e).1.keep (J b (Or.inr (Or.inr (Or.inl ⟨t, e⟩)))) (J _ (Or.inr (Or.inr (Or.inr ⟨t, b, e, rfl⟩)))), (h.k t b e).2⟩ }
theorem SM9.lt (h : SM9 B w s p m S) {j : Nat} (E : SO s m S j) : j < w.heap.size ∧ B ≤ j := by
  rcases E with rfl | rfl | ⟨t, e⟩ | ⟨t, b, e, rfl⟩
  · exact ⟨h.tg.lt, h.ge.1⟩
  · exact ⟨h.mi.lt, h.ge.2⟩
  · exact ⟨(h.k t j e).1.tg.lt, (h.k t j e).2.1⟩
  · exact ⟨(h.k t b e).1.rt.lt, (h.k t b e).2.2.1⟩
theorem SM9.b (h : SM9 B w s p m S) (J : Below w.heap.size w w') : SM9 B w' s p m S := h.keep fun j E => J.block j (h.lt E).1
theorem SM9.low (h : SM9 B w s p m S) : (Lit.int .i64 (S.sz : Int)).wf = true ∧ (Lit.int .i64 (S.last : Int)).wf = true := by
  have := h.sz1
  have := h.lst
  constructor <;> · simp [Lit.wf, IntKind.min, IntKind.max, IntKind.signed, IntKind.bits]; omega
end
end Pl
end Go.Proofs.YtcbmfakjfoggaaaGreatDoor
namespace Go.Proofs.YtcbmfakjfoggaaaGreatDoor
open Go.RowKit Go.Maps
namespace Pl
open Fr Bd Zn Dz Sb Mg
section
variable {B : Nat} {w w' : World} {s p m : Nat} {S : Ss9} {e : Nat → Addr}
set_option maxRecDepth 100000 in
theorem vt (h : SM9 B w s p m S) (a : Int) {n : Int} (hn : (Lit.int .i64 n).wf = true) : Calls Tryz.prog 104 #[.pointer (some ⟨s, 0, none⟩), .int .i64 a, .int .i64 n] w fun ev w' => ev = .returned (.bool (decide (0 ≤ a ∧ 0 ≤ n ∧ a ≤ S.sz - n))) ∧ w' = w := by
  have c2 := h.c2
  have hz := h.sz1
  have J := bd_i64 hn
  generalize S.sz = z at *
  clear h hn
  by_cases ha : 0 ≤ a
  · have d1 : decide (a ≥ 0) = true := by simpa using ha
    have d1' : decide (0 ≤ a) = true := by simpa using ha
    by_cases h0 : 0 ≤ n
    · have d2 : decide (n ≥ 0) = true := by simpa using h0
      have d2' : decide (0 ≤ n) = true := by simpa using h0
      have hw : IntKind.i64.wrap ((z : Int) - n) = z - n := IntWalk.i64_in _ (by omega)
      rw [show decide (0 ≤ a ∧ 0 ≤ n ∧ a ≤ (z : Int) - n) = decide (a ≤ (z : Int) - n) by simp [ha, h0]]
      go_enter Tryz.func104, Tryz.ntmps104
      go_wp2
      go_ret
      exact ⟨rfl, rfl⟩
    · have d2 : decide (n ≥ 0) = false := by simpa using h0
      have d2' : decide (0 ≤ n) = false := by simpa using h0
      rw [show decide (0 ≤ a ∧ 0 ≤ n ∧ a ≤ (z : Int) - n) = false by simp [h0]]
      go_enter Tryz.func104, Tryz.ntmps104
      go_wp2
      go_ret
      exact ⟨rfl, rfl⟩
  · have d1 : decide (a ≥ 0) = false := by simpa using ha
    have d1' : decide (0 ≤ a) = false := by simpa using ha
    rw [show decide (0 ≤ a ∧ 0 ≤ n ∧ a ≤ (z : Int) - n) = false by simp [ha]]
    go_enter Tryz.func104, Tryz.ntmps104
    go_wp2
    go_ret
    exact ⟨rfl, rfl⟩
set_option maxRecDepth 100000 in
theorem scount_ok (h : SM9 B w s p m S) : Calls Tryz.prog 40 #[.pointer (some ⟨s, 0, none⟩)] w fun ev w' => ev = .returned (.int .i64 S.n) ∧ w' = w := by
  have c3 := h.c3
  have hl := fun ty => h.mi.len ty
  clear h
  go_enter Tryz.func40, Tryz.ntmps40
  go_wp2
  go_ret
  exact ⟨rfl, rfl⟩
set_option maxRecDepth 100000 in
theorem IZ (h : SM9 B w s p m S) : Calls Tryz.prog 45 #[.pointer (some ⟨s, 0, none⟩)] w fun ev w' => ev = .returned (.int .i64 S.sz) ∧ w' = w := by
  have c2 := h.c2
  clear h
  go_enter Tryz.func45, Tryz.ntmps45
  go_wp2
  go_ret
  exact ⟨rfl, rfl⟩
set_option maxRecDepth 100000 in
theorem holders_none (h : SM9 B w s p m S) (he : dM w e) {t : Int} (ht : (Lit.int .i64 t).wf = true) (hf : S.f t = none) : Calls Tryz.prog 41 #[.pointer (some ⟨s, 0, none⟩), .int .i64 t] w fun ev w' => ev = .returned (.tuple #[.int .i64 0, bc (e 3)]) ∧ Below w.heap.size w w' := by
  have c3 := h.c3
  have v3 := he.v3
  have hl := h.mi.look ht
  rw [hf] at hl
  unfold bc L8 at *
  clear h he
  go_enter Tryz.func41, Tryz.ntmps41
  go_wp2_with fail
  go_quiet (fail)
  have J := I (iB (Below.refl w.heap.size w) nq)
  clear v3 c3 hl
  generalize w.drewN nq = W at *
  go_wp2
  refine bodyPost_ret (v := .tuple #[.int .i64 0, .iface 424 (.pointer (some (e 3)))]) (by simp [results, Tryz.results41, go_sem]; try rfl) rfl ?_
  exact ⟨rfl, Z J⟩
set_option maxRecDepth 100000 in
theorem holders_some (h : SM9 B w s p m S) {t : Int} (ht : (Lit.int .i64 t).wf = true) {b : Nat} (hf : S.f t = some b) : Calls Tryz.prog 41 #[.pointer (some ⟨s, 0, none⟩), .int .i64 t] w fun ev w' => ev = .returned (.tuple #[.int .i64 (S.g b).n, .nilIface]) ∧ Below w.heap.size w w' := by
  have c3 := h.c3
  have hl := h.mi.look ht
  have k3 := (h.k t b hf).1.c3
  rw [hf] at hl
  unfold L8 at *
  clear h
  go_enter Tryz.func41, Tryz.ntmps41
  go_wp2
  refine bodyPost_ret (v := .tuple #[.int .i64 (S.g b).n, .nilIface]) (by simp [results, Tryz.results41, go_sem]; try rfl) rfl ?_
  exact ⟨rfl, by first | exact Below.refl _ _ | exact dw _⟩
set_option maxRecDepth 100000 in
theorem hold_none (h : SM9 B w s p m S) (he : dM w e) {t : Int} (ht : (Lit.int .i64 t).wf = true) (hf : S.f t = none) : Calls Tryz.prog 37 #[.pointer (some ⟨s, 0, none⟩), .int .i64 t] w fun ev w' => ev = .returned (bc (e 3)) ∧ w' = w := by
  have c3 := h.c3
  have v3 := he.v3
  have hl := h.mi.look ht
  rw [hf] at hl
  unfold bc L8 at *
  clear h he
  go_enter Tryz.func37, Tryz.ntmps37
  go_wp2
  go_ret
  exact ⟨rfl, rfl⟩
set_option maxRecDepth 100000 in
theorem hold_many (h : SM9 B w s p m S) (he : dM w e) {t : Int} (ht : (Lit.int .i64 t).wf = true) {b : Nat} (hf : S.f t = some b) (hn : 16 ≤ (S.g b).n) : Calls Tryz.prog 37 #[.pointer (some ⟨s, 0, none⟩), .int .i64 t] w fun ev w' => ev = .returned (bc (e 9)) ∧ w' = w := by
  have c3 := h.c3
  have v9 := he.v9
  have hl := h.mi.look ht
  have k3 := (h.k t b hf).1.c3
  have d1 : decide (((S.g b).n : Int) ≥ 16) = true := by simp; omega
  have d2 : decide ((16 : Int) ≤ ((S.g b).n : Int)) = true := by simp; omega
  rw [hf] at hl
  unfold bc L8 at *
  clear h he
  go_enter Tryz.func37, Tryz.ntmps37
  go_wp2
  go_ret
  exact ⟨rfl, rfl⟩
end
end Pl
end Go.Proofs.YtcbmfakjfoggaaaGreatDoor
namespace Go.Proofs.YtcbmfakjfoggaaaGreatDoor
open Go.RowKit Go.Maps
namespace Pl
open Fr Bd Zn Dz Sb Mg
def upG (g : Nat → Bs) (b : Nat) (x : Bs) : Nat → Bs := fun j => if j = b then x else g j
theorem upG_at (g : Nat → Bs) (b : Nat) (x : Bs) : upG g b x b = x := by simp [upG]
theorem upG_ne {g : Nat → Bs} {b j : Nat} (h : j ≠ b) (x : Bs) : upG g b x j = g j := by simp [upG, h]
section
variable {B : Nat} {w w' : World} {s p m : Nat} {S : Ss9} {e : Nat → Addr}
theorem SM9.setn (h : SM9 B w s p m S) {t : Int} {b : Nat} (hf : S.f t = some b) {n : Nat} (hn : 1 ≤ n ∧ n ≤ 16) : SM9 B (w.setCell ⟨b, 3, none⟩ (.int .i64 n)) s p m { S with g := upG S.g b { S.g b with n := n } } := by
  have J := (h.k t b hf).1
  have hne : ∀ j, j ≠ b → (w.setCell ⟨b, 3, none⟩ (.int .i64 (n : Int))).heap[j]? = w.heap[j]? := fun j E => Below.heap_setCell _ _ _ _ E
  have hs : s ≠ b := h.tg.ne J.tg (by decide)
  have hm : m ≠ b := fun e => by
    obtain ⟨o, e1, e2⟩ := h.mi.aQ
    exact aj e1 e2 J.tg e
  have K := fun j => World.cell?_of_block (w := w) (a := ⟨s, j, none⟩) (hne s hs)
  exact { h with
    c0 := (K 0).trans h.c0, c1 := (K 1).trans h.c1, c2 := (K 2).trans h.c2, c3 := (K 3).trans h.c3, c4 := (K 4).trans h.c4
    tg := h.tg.blk (hne s hs)
    fz := fun o => (World.frozen?_of_block (w := w) (a := ⟨s, o, none⟩) (hne s hs)).trans (h.fz o)
    mi := h.mi.blk (hne m hm)
    k := fun t' b' e => by
      obtain ⟨k1, k2, k3, k4, k5, k6, k7, k8⟩ := h.k t' b' e
      by_cases LP : b' = b
      · subst LP
        simp only [upG_at]
        exact ⟨⟨(bu (by simp)).trans k1.c0, (bu (by simp)).trans k1.c1, (bu (by simp)).trans k1.c2, fK k1.c3, k1.tg.set _ _, fun o => (World.frozen?_setCell _ _ _ _).trans (k1.fz o), (hne _ k1.ne.symm).trans k1.r⟩, k2, k3, k4, k5, k6, hn⟩
      · simp only [upG_ne LP]
        exact ⟨k1.keep (hne b' LP) (hne _ (k1.rt.ne J.tg (by decide))), k2, k3, k4, k5, k6, k7, k8⟩
    rows := fun t1 t2 b1 b2 e1 e2 hq => h.rows t1 t2 b1 b2 e1 e2 (by
      have hx : ∀ j, (upG S.g b { S.g b with n := n } j).q = (S.g j).q := fun j => by
        by_cases E : j = b
        · rw [E, upG_at]
        · rw [upG_ne E]
      rw [hx, hx] at hq
      exact hq) }
set_option maxRecDepth 100000 in
theorem hold_ok (h : SM9 B w s p m S) {t : Int} (ht : (Lit.int .i64 t).wf = true) {b : Nat} (hf : S.f t = some b) (hn : (S.g b).n < 16) : Calls Tryz.prog 37 #[.pointer (some ⟨s, 0, none⟩), .int .i64 t] w fun ev w' => ev = .returned .nilIface ∧ w' = w.setCell ⟨b, 3, none⟩ (.int .i64 ((S.g b).n + 1 : Nat)) ∧ SM9 B w' s p m { S with g := upG S.g b { S.g b with n := (S.g b).n + 1 } } := by
  have hR := I (h.setn hf (n := (S.g b).n + 1) (by omega))
  have c3 := h.c3
  have hl := h.mi.look ht
  have k3 := (h.k t b hf).1.c3
  have f3 := (h.k t b hf).1.fz 3
  have d1 : decide (((S.g b).n : Int) ≥ 16) = false := by simp; omega
  have d2 : decide ((16 : Int) ≤ ((S.g b).n : Int)) = false := by simp; omega
  have hw : IntKind.i64.wrap (((S.g b).n : Int) + 1) = ((S.g b).n + 1 : Nat) := by rw [IntWalk.i64_in _ (by omega)]; rfl
  rw [hf] at hl
  unfold L8 at *
  clear h
  go_enter Tryz.func37, Tryz.ntmps37
  go_wp2
  go_ret
  exact ⟨rfl, rfl, Z hR⟩
end
end Pl
end Go.Proofs.YtcbmfakjfoggaaaGreatDoor
namespace Go.Proofs.YtcbmfakjfoggaaaGreatDoor
open Go.RowKit Go.Maps
namespace Pl
open Fr Bd Zn Dz Sb Mg
section
variable {B : Nat} {w w' : World} {s p m : Nat} {S : Ss9} {e : Nat → Addr}
set_option maxRecDepth 100000 in
theorem read_none (h : SM9 B w s p m S) (he : dM w e) {t : Int} (ht : (Lit.int .i64 t).wf = true) (hf : S.f t = none) (a n : Int) : Calls Tryz.prog 38 #[.pointer (some ⟨s, 0, none⟩), .int .i64 t, .int .i64 a, .int .i64 n] w fun ev w' => ev = .returned (.tuple #[.string ⟨#[]⟩, bc (e 3)]) ∧ Below w.heap.size w w' := by
  have c3 := h.c3
  have v3 := he.v3
  have hl := h.mi.look ht
  rw [hf] at hl
  unfold bc L8 at *
  clear h he
  go_enter Tryz.func38, Tryz.ntmps38
  go_wp2_with fail
  go_quiet (fail)
  have J := I (iB (Below.refl w.heap.size w) nq)
  clear v3 c3 hl
  generalize w.drewN nq = W at *
  go_wp2
  refine bodyPost_ret (v := .tuple #[.string ⟨#[]⟩, .iface 424 (.pointer (some (e 3)))]) (by simp [results, Tryz.results38, go_sem]; try rfl) rfl ?_
  exact ⟨rfl, Z J⟩
set_option maxRecDepth 100000 in
theorem read_bound (h : SM9 B w s p m S) (he : dM w e) {t : Int} (ht : (Lit.int .i64 t).wf = true) {b : Nat} (hf : S.f t = some b) (a : Int) {n : Int} (hn : (Lit.int .i64 n).wf = true) (hno : ¬ (0 ≤ a ∧ 0 ≤ n ∧ a ≤ S.sz - n)) : Calls Tryz.prog 38 #[.pointer (some ⟨s, 0, none⟩), .int .i64 t, .int .i64 a, .int .i64 n] w fun ev w' => ev = .returned (.tuple #[.string ⟨#[]⟩, bc (e 1)]) ∧ Below w.heap.size w w' := by
  have c3 := h.c3
  have v1 := he.v1
  have hl := h.mi.look ht
  have HC := I (vt h a hn)
  rw [decide_eq_false hno] at HC
  rw [hf] at hl
  unfold bc L8 at *
  clear h he
  go_enter Tryz.func38, Tryz.ntmps38
  go_wp2_with fail
  refine (Z HC).mono ?_
  rintro ev w1 ⟨rfl, rfl⟩
  clear HC
  go_wp2_with fail
  go_quiet (fail)
  have J := I (iB (Below.refl w1.heap.size w1) nq)
  clear v1 c3 hl
  generalize w1.drewN nq = W at *
  go_wp2
  refine bodyPost_ret (v := .tuple #[.string ⟨#[]⟩, .iface 424 (.pointer (some (e 1)))]) (by simp [results, Tryz.results38, go_sem]; try rfl) rfl ?_
  exact ⟨rfl, Z J⟩
set_option maxRecDepth 100000 in
theorem read_ok (h : SM9 B w s p m S) {t : Int} (ht : (Lit.int .i64 t).wf = true) {b : Nat} (hf : S.f t = some b) {a n : Nat} (hle : a + n ≤ S.sz) : Calls Tryz.prog 38 #[.pointer (some ⟨s, 0, none⟩), .int .i64 t, .int .i64 a, .int .i64 n] w fun ev w' => ev = .returned (.tuple #[.string ⟨(((S.g b).l.drop a).take n).toArray⟩, .nilIface]) ∧ w' = w := by
  have hz := h.sz1
  have hn : (Lit.int .i64 (n : Int)).wf = true := by simp [Lit.wf, IntKind.min, IntKind.max, IntKind.signed, IntKind.bits]; omega
  have c3 := h.c3
  have hl := h.mi.look ht
  have HC := I (vt h a hn)
  rw [decide_eq_true (show 0 ≤ (a : Int) ∧ 0 ≤ (n : Int) ∧ (a : Int) ≤ S.sz - n by omega)] at HC
  obtain ⟨k1, _, _, _, _, k6, _⟩ := h.k t b hf
  have k2 := k1.c2
  unfold bsV at k2
  rw [k6] at k2
  have hw : IntKind.i64.wrap ((a : Int) + n) = (a : Int) + n := IntWalk.i64_in _ (by omega)
  have hcv : ∀ q cap, (∀ j, j < n → w.cell? ((q : Addr).add j) = (Lib.byteCells (S.g b).l)[a + j]?) → (convert 80 9 (.slice (some q) n cap)).run Tryz.prog w = .ok (.string ⟨(((S.g b).l.drop a).take n).toArray⟩) w := fun q cap hq => by
    have hlen : (((S.g b).l.drop a).take n).length = n := by simp; omega
    have := run_convert_bytes_back (P := Tryz.prog) w 80 9 5 q cap (((S.g b).l.drop a).take n) Tryz.underlying80 Tryz.underlying5 Tryz.underlying9 (fun j E => by
      have hj' : j < n := by rw [hlen] at E; exact E
      rw [hq j hj']
      simp [Lib.byteCells]
      exact ⟨_, List.getElem?_eq_getElem (by omega), rfl⟩)
    rw [hlen] at this
    exact this
  have hr : ∀ j, w.cell? ⟨(S.g b).q, j, none⟩ = (Lib.byteCells (S.g b).l)[j]? := fun j => by
    unfold World.cell?
    rw [k1.r]
    simp
  rw [hf] at hl
  unfold L8 at *
  generalize S.sz = z at *
  generalize (S.g b).q = q at *
  clear h k1 k6 hf
  by_cases ha : z = a
  · subst ha
    obtain rfl : n = 0 := by omega
    simp only [List.take_zero] at *
    go_enter Tryz.func38, Tryz.ntmps38
    go_wp2_with fail
    refine (Z HC).mono ?_
    rintro ev w1 ⟨rfl, rfl⟩
    clear HC
    go_wp2
    refine bodyPost_ret (v := .tuple #[.string ⟨(([] : List UInt8)).toArray⟩, .nilIface]) (by simp [results, Tryz.results38, go_sem]; try rfl) rfl ?_
    exact ⟨rfl, rfl⟩
  · have ha' : ¬ a = z := fun e => ha e.symm
    go_enter Tryz.func38, Tryz.ntmps38
    go_wp2_with fail
    refine (Z HC).mono ?_
    rintro ev w1 ⟨rfl, rfl⟩
    clear HC
    go_wp2
    refine bodyPost_ret (v := .tuple #[.string ⟨(((S.g b).l.drop a).take n).toArray⟩, .nilIface]) (by simp [results, Tryz.results38, go_sem]; try rfl) rfl ?_
    exact ⟨rfl, rfl⟩
end
end Pl
end Go.Proofs.YtcbmfakjfoggaaaGreatDoor
namespace Go.Proofs.YtcbmfakjfoggaaaGreatDoor
open Go.RowKit Go.Maps
namespace Pl
open Fr Bd Zn Dz Sb Mg
def spl (l : List UInt8) (a : Nat) (t : List UInt8) : List UInt8 := l.take a ++ t ++ l.drop (a + t.length)
theorem spl_len {l : List UInt8} {a : Nat} {t : List UInt8} (h : a + t.length ≤ l.length) : (spl l a t).length = l.length := by
  simp [spl]; omega
section
variable {B : Nat} {w w' : World} {s p m : Nat} {S : Ss9} {e : Nat → Addr}
theorem SM9.setl (h : SM9 B w s p m S) {t : Int} {b : Nat} (hf : S.f t = some b) {l : List UInt8} (hl : l.length = S.sz) : SM9 B (w.setRow (S.g b).q (Lib.byteCells l).toArray) s p m { S with g := upG S.g b { S.g b with l := l } } := by
  have J := (h.k t b hf).1
  have hne : ∀ j, j ≠ (S.g b).q → (w.setRow (S.g b).q (Lib.byteCells l).toArray).heap[j]? = w.heap[j]? := fun j E => setRow_other _ _ _ _ E
  have hs : s ≠ (S.g b).q := h.tg.ne J.rt (by decide)
  have hm : m ≠ (S.g b).q := fun e => by
    obtain ⟨o, e1, e2⟩ := h.mi.aQ
    exact aj e1 e2 J.rt e
  have K := fun j => World.cell?_of_block (w := w) (a := ⟨s, j, none⟩) (hne s hs)
  exact { h with
    c0 := (K 0).trans h.c0, c1 := (K 1).trans h.c1, c2 := (K 2).trans h.c2, c3 := (K 3).trans h.c3, c4 := (K 4).trans h.c4
    tg := h.tg.blk (hne s hs)
    fz := fun o => (World.frozen?_of_block (w := w) (a := ⟨s, o, none⟩) (hne s hs)).trans (h.fz o)
    mi := h.mi.blk (hne m hm)
    k := fun t' b' e => by
      obtain ⟨k1, k2, k3, k4, k5, k6, k7⟩ := h.k t' b' e
      by_cases LP : b' = b
      · subst LP
        simp only [upG_at]
        have hd := fun j => World.cell?_of_block (w := w) (a := ⟨b', j, none⟩) (hne b' k1.ne)
        refine ⟨⟨(hd 0).trans k1.c0, (hd 1).trans k1.c1, (hd 2).trans (k1.c2.trans ?_), (hd 3).trans k1.c3, k1.tg.blk (hne b' k1.ne), fun o => (World.frozen?_of_block (w := w) (a := ⟨b', o, none⟩) (hne b' k1.ne)).trans (k1.fz o), setRow_heap _ _ _ _ _ _ k1.r⟩, k2, k3, k4, k5, hl, k7⟩
        simp only [bsV, k6, hl]
      · simp only [upG_ne LP]
        exact ⟨k1.keep (hne b' (k1.tg.ne J.rt (by decide))) (hne _ (fun e2 => LP (h.rows t' t b' b e hf e2))), k2, k3, k4, k5, k6, k7⟩
    rows := fun t1 t2 b1 b2 e1 e2 hq => h.rows t1 t2 b1 b2 e1 e2 (by
      have hx : ∀ j, (upG S.g b { S.g b with l := l } j).q = (S.g j).q := fun j => by
        by_cases E : j = b
        · rw [E, upG_at]
        · rw [upG_ne E]
      rw [hx, hx] at hq
      exact hq) }
set_option maxRecDepth 100000 in
theorem write_none (h : SM9 B w s p m S) (he : dM w e) {t : Int} (ht : (Lit.int .i64 t).wf = true) (hf : S.f t = none) (a : Int) (x : ByteArray) : Calls Tryz.prog 36 #[.pointer (some ⟨s, 0, none⟩), .int .i64 t, .int .i64 a, .string x] w fun ev w' => ev = .returned (bc (e 3)) ∧ w' = w := by
  have c3 := h.c3
  have v3 := he.v3
  have hl := h.mi.look ht
  rw [hf] at hl
  unfold bc L8 at *
  clear h he
  go_enter Tryz.func36, Tryz.ntmps36
  go_wp2
  go_ret
  exact ⟨rfl, rfl⟩
set_option maxRecDepth 100000 in
theorem write_bound (h : SM9 B w s p m S) (he : dM w e) {t : Int} (ht : (Lit.int .i64 t).wf = true) {b : Nat} (hf : S.f t = some b) (a : Int) (x : ByteArray) (hx : (Lit.int .i64 (x.size : Int)).wf = true) (hno : ¬ (0 ≤ a ∧ a ≤ S.sz - x.size)) : Calls Tryz.prog 36 #[.pointer (some ⟨s, 0, none⟩), .int .i64 t, .int .i64 a, .string x] w fun ev w' => ev = .returned (bc (e 1)) ∧ w' = w := by
  have c3 := h.c3
  have v1 := he.v1
  have hl := h.mi.look ht
  have HC := I (vt h a hx)
  rw [decide_eq_false (fun q => hno ⟨q.1, q.2.2⟩)] at HC
  rw [hf] at hl
  unfold bc L8 at *
  clear h he
  go_enter Tryz.func36, Tryz.ntmps36
  go_wp2_with fail
  refine (Z HC).mono ?_
  rintro ev w1 ⟨rfl, rfl⟩
  clear HC
  go_wp2
  go_ret
  exact ⟨rfl, rfl⟩
set_option maxRecDepth 100000 in
theorem write_held (h : SM9 B w s p m S) (he : dM w e) {t : Int} (ht : (Lit.int .i64 t).wf = true) {b : Nat} (hf : S.f t = some b) (hn : 1 < (S.g b).n) {a : Nat} (x : ByteArray) (hle : a + x.size ≤ S.sz) : Calls Tryz.prog 36 #[.pointer (some ⟨s, 0, none⟩), .int .i64 t, .int .i64 a, .string x] w fun ev w' => ev = .returned (bc (e 5)) ∧ w' = w := by
  have hz := h.sz1
  have hx : (Lit.int .i64 (x.size : Int)).wf = true := by simp [Lit.wf, IntKind.min, IntKind.max, IntKind.signed, IntKind.bits]; omega
  have c3 := h.c3
  have v5 := he.v5
  have hl := h.mi.look ht
  have k3 := (h.k t b hf).1.c3
  have HC := I (vt h a hx)
  rw [decide_eq_true (show 0 ≤ (a : Int) ∧ 0 ≤ (x.size : Int) ∧ (a : Int) ≤ S.sz - x.size by omega)] at HC
  have d1 : decide (((S.g b).n : Int) > 1) = true := by simp; omega
  have d2 : decide ((1 : Int) < ((S.g b).n : Int)) = true := by simp; omega
  rw [hf] at hl
  unfold bc L8 at *
  clear h he
  go_enter Tryz.func36, Tryz.ntmps36
  go_wp2_with fail
  refine (Z HC).mono ?_
  rintro ev w1 ⟨rfl, rfl⟩
  clear HC
  go_wp2
  go_ret
  exact ⟨rfl, rfl⟩
set_option maxRecDepth 100000 in
theorem write_ok (h : SM9 B w s p m S) {t : Int} (ht : (Lit.int .i64 t).wf = true) {b : Nat} (hf : S.f t = some b) (hn : (S.g b).n = 1) {a : Nat} (x : ByteArray) (hle : a + x.size ≤ S.sz) : Calls Tryz.prog 36 #[.pointer (some ⟨s, 0, none⟩), .int .i64 t, .int .i64 a, .string x] w fun ev w' => ev = .returned .nilIface ∧ w' = w.setRow (S.g b).q (Lib.byteCells (spl (S.g b).l a x.data.toList)).toArray ∧ SM9 B w' s p m { S with g := upG S.g b { S.g b with l := spl (S.g b).l a x.data.toList } } := by
  have hz := h.sz1
  have hx : (Lit.int .i64 (x.size : Int)).wf = true := by simp [Lit.wf, IntKind.min, IntKind.max, IntKind.signed, IntKind.bits]; omega
  have OI : x.data.toList.length = x.size := (Lib.size_eq x).symm
  have k6 := (h.k t b hf).2.2.2.2.2.1
  have HR := I (h.setl hf (l := spl (S.g b).l a x.data.toList) (by rw [spl_len (by rw [OI, k6]; exact hle), k6]))
  have c3 := h.c3
  have hl := h.mi.look ht
  have k3 := (h.k t b hf).1.c3
  have k2 := (h.k t b hf).1.c2
  have hr := (h.k t b hf).1.r
  have HC := I (vt h a hx)
  rw [decide_eq_true (show 0 ≤ (a : Int) ∧ 0 ≤ (x.size : Int) ∧ (a : Int) ≤ S.sz - x.size by omega)] at HC
  have d1 : decide (((S.g b).n : Int) > 1) = false := by simp; omega
  have d2 : decide ((1 : Int) < ((S.g b).n : Int)) = false := by simp; omega
  have hcp : ∀ ty, (Builtin.copy_ #[80, 9] ty #[.slice (some ⟨(S.g b).q, a, none⟩) (S.sz - a) (S.sz - a), .string x]).run Tryz.prog w = .ok (goInt x.size) (w.setRow (S.g b).q (Lib.byteCells (spl (S.g b).l a x.data.toList)).toArray) := fun ty => by
    rw [Lib.run_copy_row_string w 80 9 ty 5 (S.g b).q a (S.sz - a) (S.sz - a) x _ 5 Tryz.underlying80 (by kernel_rfl) hr (by omega) (by simp [Lib.byteCells, k6]; omega)]
    simp [spl, Lib.byteCells, List.map_take, List.map_drop, OI]
  have hself : a = S.sz → w.setRow (S.g b).q (Lib.byteCells (spl (S.g b).l a x.data.toList)).toArray = w := fun ha => by
    have hx0 : x.data.toList = [] := List.length_eq_zero_iff.1 (by rw [OI]; omega)
    have : spl (S.g b).l a x.data.toList = (S.g b).l := by
      rw [hx0, ha, ← k6]
      simp [spl]
    rw [this]
    exact setRow_self w _ _ 5 (0, 0) hr
  have hcz : a = S.sz → ∀ ty d, (Builtin.copy_ #[80, 9] ty #[.slice d 0 0, .string x]).run Tryz.prog w = .ok (goInt 0) w := fun ha ty d => Lib.run_copy_empty_string w 80 9 ty 5 d 0 0 x Tryz.underlying80 (by kernel_rfl) (by omega)
  rw [hf] at hl
  unfold bsV at k2
  rw [k6] at k2
  generalize hWR : w.setRow (S.g b).q (Lib.byteCells (spl (S.g b).l a x.data.toList)).toArray = WR at *
  unfold L8 at *
  by_cases ha : a = S.sz
  · have hs := hself ha
    have hc0 := hcz ha
    rw [hs] at HR ⊢
    subst ha
    clear h k6 hself hcz hcp hWR hr hs hf OI
    go_enter Tryz.func36, Tryz.ntmps36
    go_wp2_with fail
    refine (Z HC).mono ?_
    rintro ev w1 ⟨rfl, rfl⟩
    clear HC
    go_wp2_with (at_builtin; refine Lib.wpList_copy_run _ rfl _ _ 80 9 rfl _ _ rfl rfl (hc0 _ _) ?_)
    go_ret
    exact ⟨rfl, rfl, Z HR⟩
  · have ha' : ¬ S.sz = a := fun e => ha e.symm
    clear h k6 hself hcz hWR hr hf OI
    go_enter Tryz.func36, Tryz.ntmps36
    go_wp2_with fail
    refine (Z HC).mono ?_
    rintro ev w1 ⟨rfl, rfl⟩
    clear HC
    go_wp2_with (at_builtin; refine Lib.wpList_copy_run _ rfl _ _ 80 9 rfl _ _ rfl rfl (hcp _) ?_)
    go_ret
    exact ⟨rfl, rfl, Z HR⟩
end
end Pl
end Go.Proofs.YtcbmfakjfoggaaaGreatDoor
namespace Go.Proofs.YtcbmfakjfoggaaaGreatDoor
open Go.RowKit Go.Maps
namespace Pl
open Fr Bd Zn Dz Sb Mg
def snewW (w : World) (Y ws sz : Nat) : World := (w.alloc (.map #[] 0)).alloc (.cells #[.pointer (some ⟨Y, 0, none⟩), .int .i64 ws, .int .i64 sz, .map (some w.heap.size), .int .i64 0] 189)
def Ss0 (ws sz : Nat) : Ss9 := ⟨ws, sz, 0, 0, 0, fun _ => none, fun _ => ⟨(0, 0), [], 0, 0⟩⟩
section
variable {B : Nat} {w w' : World} {Y d n c : Nat} {e : Nat → Addr} {p : Option Addr}
theorem snew_b (w : World) (Y ws sz : Nat) : Below w.heap.size w (snewW w Y ws sz) := χ (χ (Below.refl _ _) _) _
theorem snew_sm (w : World) (Y ws : Nat) {sz : Nat} (hz : 1 ≤ sz ∧ sz ≤ 64) (hB : B ≤ w.heap.size) : SM9 B (snewW w Y ws sz) (w.heap.size + 1) Y w.heap.size (Ss0 ws sz) := by
  have q' := World.cell?_alloc_new (w.alloc (.map #[] 0)) #[.pointer (some ⟨Y, 0, none⟩), .int .i64 ws, .int .i64 sz, .map (some w.heap.size), .int .i64 0] 189
  have hs : (w.alloc (.map #[] 0)).heap.size = w.heap.size + 1 := by simp
  rw [hs] at q'
  exact {
    c0 := q' 0, c1 := q' 1, c2 := q' 2, c3 := q' 3, c4 := q' 4
    tg := by
      have := bB (w.alloc (.map #[] 0)) #[.pointer (some ⟨Y, 0, none⟩), .int .i64 ws, .int .i64 sz, .map (some w.heap.size), .int .i64 0] 189
      rwa [hs] at this
    fz := fun o => World.frozen?_alloc_at _ _ (w.heap.size + 1) o hs.symm
    mi := (Mi9.made w).b (χ (Below.refl _ _) _)
    k := fun t b h => (by cases h)
    inj := fun t t' b h => (by cases h)
    rows := fun t t' b b' h => (by cases h)
    ge := ⟨by omega, hB⟩
    sz1 := hz
    lst := by show 0 ≤ 1000000; omega }
set_option maxRecDepth 100000 in
theorem MV (h0 : w.cell? ⟨Y, 0, none⟩ = some (.pointer (some ⟨d, 0, none⟩))) (h : w.cell? ⟨d, 1, none⟩ = some (.slice p n c)) {sz : Nat} (hz : 1 ≤ sz ∧ sz ≤ 64) : Calls Tryz.prog 44 #[.pointer (some ⟨Y, 0, none⟩), .int .i64 sz] w fun ev w' => ev = .returned (.tuple #[.pointer (some ⟨w.heap.size + 1, 0, none⟩), .nilIface]) ∧ w' = snewW w Y n sz := by
  have HC := I (yo h0 h)
  have d1 : decide ((sz : Int) < 1) = false := by simp; omega
  have d2 : decide ((sz : Int) > 64) = false := by simp; omega
  have d3 : decide ((64 : Int) < (sz : Int)) = false := by simp; omega
  have f_ := @run_makeMap Tryz.prog
  unfold snewW
  clear h0 h
  go_enter Tryz.func44, Tryz.ntmps44
  go_wp2_with fail
  refine (Z HC).mono ?_
  rintro ev w1 ⟨rfl, rfl⟩
  clear HC
  go_wp2
  refine bodyPost_ret (v := .tuple #[.pointer (some ⟨w1.heap.size + 1, 0, none⟩), .nilIface]) (by simp [results, Tryz.results44, go_sem]; try rfl) rfl ?_
  exact ⟨rfl, rfl⟩
end
end Pl
end Go.Proofs.YtcbmfakjfoggaaaGreatDoor
namespace Go.Proofs.YtcbmfakjfoggaaaGreatDoor
open Go.RowKit Go.Maps
namespace Pl
open Fr Bd Zn Dz Sb Mg
abbrev SK9 : List TypeId := [189, 192, 5]
def Stn (N m : Nat) (w : World) (b : Nat) : Prop := N ≤ b ∧ ((∃ κ, Tag w b κ ∧ κ ∈ SK9) ∨ b = m)
def Xm9 (X : Nat → Option Obj) (m : Nat) (w : World) : Nat → Option Obj := fun j => if j = m then w.heap[m]? else X j
section
variable {B : Nat} {C : Dc} {ab7 : Nat → Prop} {X : Nat → Option Obj} {Y F ym m : Nat} {S : Ds} {P : Ps} {w w' : World}
theorem PD.sto (h : PD B C ab7 X Y F ym S P w) (D : Kp (Stn C.w0.heap.size m w) w w') (hm : ∃ o, X m = some o) (sB : ∃ o, w'.heap[m]? = some o ∧ kind o = none) : PD B C ab7 (Xm9 X m w') Y F ym S P w' := by
  have hxm : m ≠ F ∧ m ≠ ym := by
    obtain ⟨o, e⟩ := hm
    constructor
    · rintro rfl; rw [h.xt.1] at e; cases e
    · rintro rfl; rw [h.xt.2] at e; cases e
  have hx2 : ∃ o, X2 F ym X w m = some o := by
    obtain ⟨o, e⟩ := hm
    exact ⟨o, by unfold X2; rw [if_neg (fun q => q.elim hxm.1 hxm.2), e]⟩
  obtain ⟨o0, ho0⟩ := hx2
  obtain ⟨em, km⟩ := h.k.map ho0
  have hSK : ∀ κ ∈ SK9, κ ≠ 34 ∧ κ ∉ Si ∧ κ ≠ 3 ∧ κ ≠ 144 := by decide
  have wN : ∀ b, PB Y F ym P b → ¬ Stn C.w0.heap.size m w b := fun b J hv => by
    rcases hv with ⟨_, ⟨κ, JV, hs⟩ | rfl⟩
    · obtain ⟨n1, _, n3, n4⟩ := hSK κ hs
      rcases J with rfl | rfl | rfl | J | J
      · exact JV.ne h.m.tg n4 rfl
      · obtain ⟨o, e1, e2⟩ := h.m.t.aQ; exact aj e1 e2 JV rfl
      · obtain ⟨o, e1, e2⟩ := h.m.y.aQ; exact aj e1 e2 JV rfl
      · exact JV.ne (ay h.m.r J).1 n1 rfl
      · exact JV.ne (ay h.m.l J).1 n3 rfl
    · rcases J with rfl | rfl | rfl | J | J
      · exact aj em km h.m.tg rfl
      · exact hxm.1 rfl
      · exact hxm.2 rfl
      · exact aj em km (ay h.m.r J).1 rfl
      · exact aj em km (ay h.m.l J).1 rfl
  have hs : ∀ b, PB Y F ym P b → w'.heap[b]? = w.heap[b]? := fun b J => D.blk b (h.m.lt J).1 (wN b J)
  have hno : ∀ b κ, Tag w b κ → κ ∉ SK9 → ¬ Stn C.w0.heap.size m w b := fun b κ ht hn hv => by
    rcases hv with ⟨_, ⟨κ', JV, hs⟩ | rfl⟩
    · exact JV.ne ht (fun e => hn (e ▸ hs)) rfl
    · exact aj em km ht rfl
  have hNR : NR C.z C.k (Stn C.w0.heap.size m w) w := by
    intro g c i h' d e1 e2 hi hv
    obtain ⟨g2, c2, rows, e3, o2, r2⟩ := h.k.dz.cf
    rw [e3] at e1
    simp only [Option.some.injEq, Value.slice.injEq, Addr.mk.injEq, and_true, true_and] at e1
    obtain ⟨rfl, rfl⟩ := e1
    obtain ⟨O, d2, e4, o3⟩ := r2 i hi
    rw [(o2.cellAt i (by omega)).trans e4] at e2
    simp only [Option.some.injEq, Value.slice.injEq, Addr.mk.injEq, and_true, true_and] at e2
    obtain ⟨rfl, rfl⟩ := e2
    exact hno _ 3 (fV o3) (by decide) hv
  have hK : DK C (fun j => ab7 j ∨ OB P.vr j) (X2 F ym (Xm9 X m w') w') S w' := by
    refine h.k.iV D hNR (fun b J => J.1) (fun b J => ?_) (fun b o e => ?_) (fun j E => ?_)
    · rcases J with ⟨_, ⟨κ, JV, hs⟩ | rfl⟩
      · exact Or.inr (Or.inr ⟨κ, JV, (hSK κ hs).1, (hSK κ hs).2.1⟩)
      · exact Or.inr (Or.inl ⟨o0, ho0⟩)
    · by_cases U1 : b = m
      · subst U1
        unfold X2 at e
        rw [if_neg (fun q => q.elim hxm.1 hxm.2)] at e
        unfold Xm9 at e
        rw [if_pos rfl] at e
        obtain ⟨o', e1, e2⟩ := sB
        rw [e1] at e
        cases e
        exact ⟨e1, e2, Or.inl ⟨o0, ho0⟩⟩
      · have e' : X2 F ym X w b = some o := by
          unfold X2 at e ⊢
          by_cases J : b = F ∨ b = ym
          · rw [if_pos J] at e ⊢
            rw [← e]
            rcases J with rfl | rfl
            · exact (hs b (Or.inr (Or.inl rfl))).symm
            · exact (hs b (Or.inr (Or.inr (Or.inl rfl)))).symm
          · rw [if_neg J] at e ⊢
            unfold Xm9 at e
            rwa [if_neg U1] at e
        obtain ⟨e1, e2⟩ := h.k.map e'
        refine ⟨(D.blk b (Array.getElem?_eq_some_iff.mp e1).1 (fun hv => ?_)).trans e1, e2, Or.inl ⟨o, e'⟩⟩
        rcases hv with ⟨_, ⟨κ, JV, _⟩ | rfl⟩
        · exact aj e1 e2 JV rfl
        · exact U1 rfl
    · rcases E with E | E
      · exact ⟨(h.iH j E).blk (D.blk j (h.uu j E) (hno j 34 (h.iH j E) (by decide))), Or.inl (Or.inl E)⟩
      · exact ⟨(ay h.m.r E).1.blk (hs j (Or.inr (Or.inr (Or.inr (Or.inl E))))), Or.inl (Or.inr E)⟩
  refine ⟨hK, h.m.keep hs, h.nr.keep h.k.dz (fun c t hm K => D.blk c K.lt (hno c t K ?_)) (fun j E => Or.inl E), h.dj, ?_, h.hB⟩
  · simp only [List.mem_cons, List.not_mem_nil, or_false] at hm
    rcases hm with rfl | rfl <;> decide
  · unfold Xm9
    rw [if_neg hxm.1.symm, if_neg hxm.2.symm]
    exact h.xt
end
end Pl
end Go.Proofs.YtcbmfakjfoggaaaGreatDoor
namespace Go.Proofs.YtcbmfakjfoggaaaGreatDoor
open Go.RowKit Go.Maps
namespace Pl
open Fr Bd Zn Dz Sb Mg
section
variable {B : Nat} {C : Dc} {ab7 : Nat → Prop} {X : Nat → Option Obj} {Y F ym m s : Nat} {S S' : Ds} {P P' : Ps} {w w' : World} {Z99 Z' : Ss9}
theorem PD.newX (h : PD B C ab7 X Y F ym S P w) (J : Below w.heap.size w w') (oG : w.heap.size ≤ m) (sB : ∃ o, w'.heap[m]? = some o ∧ kind o = none) : PD B C ab7 (Xm9 X m w') Y F ym S P w' := by
  have G := h.b J
  have hlt : ∀ b, PB Y F ym P b → b ≠ m := fun b hp e => by have := (h.m.lt hp).1; omega
  have ht := hlt F (Or.inr (Or.inl rfl))
  have hy := hlt ym (Or.inr (Or.inr (Or.inl rfl)))
  have hK : DK C (fun j => ab7 j ∨ OB P.vr j) (X2 F ym (Xm9 X m w') w') S w' := by
    refine h.k.iV (T := fun _ => False) (Kp.below J) (fun _ _ _ _ _ _ _ _ q => q) (fun _ q => q.elim) (fun _ q => q.elim) (fun b o e => ?_) (fun j E => ?_)
    · by_cases U1 : b = m
      · subst U1
        unfold X2 at e
        rw [if_neg (fun q => q.elim (fun e => ht e.symm) (fun e => hy e.symm))] at e
        unfold Xm9 at e
        rw [if_pos rfl] at e
        obtain ⟨o', e1, e2⟩ := sB
        rw [e1] at e
        cases e
        exact ⟨e1, e2, Or.inr oG⟩
      · have e' : X2 F ym X w b = some o := by
          unfold X2 at e ⊢
          by_cases hq : b = F ∨ b = ym
          · rw [if_pos hq] at e ⊢
            rw [← e]
            rcases hq with rfl | rfl
            · exact (J.block b h.m.t.lt).symm
            · exact (J.block b h.m.y.lt).symm
          · rw [if_neg hq] at e ⊢
            unfold Xm9 at e
            rwa [if_neg U1] at e
        obtain ⟨e1, e2⟩ := h.k.map e'
        exact ⟨(J.block b (Array.getElem?_eq_some_iff.mp e1).1).trans e1, e2, Or.inl ⟨o, e'⟩⟩
    · rcases E with E | E
      · exact ⟨G.iH j E, Or.inl (Or.inl E)⟩
      · exact ⟨(ay G.m.r E).1, Or.inl (Or.inr E)⟩
  refine ⟨hK, G.m, G.nr, G.dj, ?_, G.hB⟩
  unfold Xm9
  rw [if_neg ht, if_neg hy]
  exact h.xt
structure SP9 (B : Nat) (C : Dc) (ab7 : Nat → Prop) (X : Nat → Option Obj) (Y F ym : Nat) (S : Ds) (P : Ps) (s m : Nat) (Z99 : Ss9) (w : World) : Prop where
  d : PD B C ab7 X Y F ym S P w
  k : SM9 B w s Y m Z99
  x : X m = w.heap[m]?
theorem SP9.b (h : SP9 B C ab7 X Y F ym S P s m Z99 w) (J : Below w.heap.size w w') : SP9 B C ab7 X Y F ym S P s m Z99 w' := ⟨h.d.b J, h.k.b J, h.x.trans (J.block m h.k.mi.lt).symm⟩
theorem SP9.pool (h : SP9 B C ab7 X Y F ym S P s m Z99 w) (hd : PD B C ab7 X Y F ym S' P' w') (hf : PF ab7 P P' w w') : SP9 B C ab7 X Y F ym S' P' s m Z99 w' := by
  have hxm : w'.heap[m]? = w.heap[m]? := by
    obtain ⟨o, e1, e2⟩ := h.k.mi.aQ
    have hx := h.x.trans e1
    have O : X2 F ym X w' m = some o := by
      unfold X2
      rw [if_neg, hx]
      rintro (rfl | rfl)
      · rw [h.d.xt.1] at hx; cases hx
      · rw [h.d.xt.2] at hx; cases hx
    exact (hd.k.map O).1.trans e1.symm
  refine ⟨hd, h.k.keep fun j E => ?_, h.x.trans hxm.symm⟩
  rcases E with rfl | rfl | ⟨t, e⟩ | ⟨t, b, e, rfl⟩
  · exact hf.s j 189 (by decide) h.k.tg
  · exact hxm
  · exact hf.s j 192 (by decide) (h.k.k t j e).1.tg
  · exact hf.s _ 5 (by decide) (h.k.k t b e).1.rt
theorem SP9.own (h : SP9 B C ab7 X Y F ym S P s m Z99 w) (D : Kp (Stn C.w0.heap.size m w) w w') (hZ : SM9 B w' s Y m Z') : SP9 B C ab7 (Xm9 X m w') Y F ym S P s m Z' w' := by
  obtain ⟨o, e1, e2⟩ := hZ.mi.aQ
  obtain ⟨o0, f1, f2⟩ := h.k.mi.aQ
  exact ⟨h.d.sto D ⟨o0, h.x.trans f1⟩ ⟨o, e1, e2⟩, hZ, by unfold Xm9; rw [if_pos rfl]⟩
theorem SP9.start (h : PD B C ab7 X Y F ym S P w) (hB : B ≤ w.heap.size) (ws : Nat) {sz : Nat} (hz : 1 ≤ sz ∧ sz ≤ 64) : SP9 B C ab7 (Xm9 X w.heap.size (snewW w Y ws sz)) Y F ym S P (w.heap.size + 1) w.heap.size (Ss0 ws sz) (snewW w Y ws sz) := by
  have hs := snew_sm w Y ws hz hB
  obtain ⟨o, e1, e2⟩ := hs.mi.aQ
  exact ⟨h.newX (snew_b w Y ws sz) (Nat.le_refl _) ⟨o, e1, e2⟩, hs, by unfold Xm9; rw [if_pos rfl]⟩
end
end Pl
end Go.Proofs.YtcbmfakjfoggaaaGreatDoor
namespace Go.Proofs.YtcbmfakjfoggaaaGreatDoor
open Go.RowKit Go.Maps
namespace Pl
open Fr Bd Zn Dz Sb Mg
section
variable {B : Nat} {C : Dc} {ab7 V' : Nat → Prop} {X : Nat → Option Obj} {Y F ym m s : Nat} {S S' : Ds} {P P' : Ps} {w w' : World} {Z99 Z' : Ss9} {e : Nat → Addr}
theorem SP9.more (h : SP9 B C ab7 X Y F ym S P s m Z99 w) (J : Below w.heap.size w w') {b : Nat} (hw : w.heap.size ≤ b) (ht : Tag w' b 34) : SP9 B C (fun j => ab7 j ∨ j = b) X Y F ym S P s m Z99 w' := ⟨h.d.more J hw ht, h.k.b J, h.x.trans (J.block m h.k.mi.lt).symm⟩
theorem SP9.less (h : SP9 B C ab7 X Y F ym S P s m Z99 w) (hv : ∀ j, V' j → ab7 j) : SP9 B C V' X Y F ym S P s m Z99 w := ⟨h.d.less hv, h.k, h.x⟩
theorem SP9.h_ (h : SP9 B C ab7 X Y F ym S P s m Z99 w) {b : Nat} (J : ab7 b) (o : Nat) (v : Value) : SP9 B C ab7 X Y F ym S P s m Z99 (w.setCell ⟨b, o, none⟩ v) := by
  have ht := h.d.iH b J
  have hne : ∀ j, j ≠ b → (w.setCell ⟨b, o, none⟩ v).heap[j]? = w.heap[j]? := fun j E => Below.heap_setCell _ _ _ _ E
  have hm : m ≠ b := fun q => by
    obtain ⟨o', e1, e2⟩ := h.k.mi.aQ
    exact aj e1 e2 ht q
  refine ⟨h.d.h_ J o v, h.k.keep fun j E => hne j ?_, h.x.trans (hne m hm).symm⟩
  rcases E with rfl | rfl | ⟨t, e⟩ | ⟨t, b', e, rfl⟩
  · exact h.k.tg.ne ht (by decide)
  · exact hm
  · exact (h.k.k t j e).1.tg.ne ht (by decide)
  · exact (h.k.k t b' e).1.rt.ne ht (by decide)
set_option maxRecDepth 100000 in
set_option maxHeartbeats 16000000 in
theorem object_ok (h : SP9 B C ab7 X Y F ym S P s m Z99 w) (he : dM C.w0 e) (_h12 : 11 < C.w0.heap.size) {x y : Int} (Φ : Bl → Ds → Ps → Prop)
    (HT : ∀ ab7 W, SP9 B C ab7 X Y F ym S P s m Z99 W → Calls Tryz.prog 15 #[.pointer (some ⟨Y, 0, none⟩), .int .i64 x, .int .i64 y] W fun ev w' => ∃ (o : Bl) (S' : Ds) (P' : Ps), ev = .returned (.tuple #[bz o.1 o.2, .nilIface]) ∧ PD B C ab7 X Y F ym S' P' w' ∧ PF ab7 P P' W w' ∧ Φ o S' P') :
    Calls Tryz.prog 103 #[.pointer (some ⟨s, 0, none⟩), .int .i64 x, .int .i64 y] w fun ev w' => ∃ (o : Bl) (S' : Ds) (P' : Ps), ev = .returned (.tuple #[bz o.1 o.2, .nilIface]) ∧ SP9 B C ab7 X Y F ym S' P' s m Z99 w' ∧ PF ab7 P P' w w' ∧ Φ o S' P' := by
  have F1 := χ (Below.refl w.heap.size w) (.cells #[.int .i64 0, .int .i64 0] 34)
  have R1 := cQ w
  have H1 := h.more F1 (Nat.le_refl _) R1.tg
  have cZ := I (h.d.fb F1)
  have HC := I (HT _ _ H1)
  have fk := I R1
  have HV := I h.d.uu
  have HE := I he
  have c0 := H1.k.c0
  have Pn := I H1
  clear h F1 R1 H1 he HT
  unfold bz at *
  go_enter Tryz.func103, Tryz.ntmps103
  go_upto_region 1 with (fail)
  generalize w.alloc (.cells #[.int .i64 0, .int .i64 0] 34) = W at *
  go_wp2_with fail
  refine (Z HC).mono ?_
  rintro ev w2 ⟨⟨oN, oA⟩, S2, P2, rfl, D2, F2, yx⟩
  have H2 := (Z Pn).pool D2 F2
  have R2 := (Z fk).blk (F2.v w.heap.size (Or.inr rfl))
  have F3 := χ (Below.refl w2.heap.size w2) (.cells #[.int .i64 oN, .int .i64 oA] 34)
  have H3 := H2.b F3
  have R3 := R2.b F3
  have fY := I (((Z cZ).trans (F2.mono fun j E => Or.inl E)).trans ((H2.d.fb F3).mono fun j E => Or.inl E))
  have HQ := I (Mg.Bx.new w2 oN oA)
  have q' := World.cell?_alloc_new w2 #[.int .i64 oN, .int .i64 oA] 34
  have q0 := q' 0
  have q1 := q' 1
  simp only [List.getElem?_toArray, List.getElem?_cons_zero, List.getElem?_cons_succ] at q0 q1
  have v7 := ((Z HE).below (DQ.b0 H3.d.k)).v7
  have HN := fun W => Jk (e 7) W
  have eD := I H3
  have iq := I R3
  have WL := I yx
  clear HC D2 F2 H2 R2 F3 H3 R3 yx q' Pn fk cZ c0 HE
  unfold bc at *
  simp only at *
  go_upto_region 4 with (fail)
  generalize w2.alloc (.cells #[.int .i64 oN, .int .i64 oA] 34) = W3 at *
  generalize w2.heap.size = b9 at *
  obtain ⟨r0, r1, bQ, rt⟩ := Z iq
  have f0 := bQ 0
  have f1 := bQ 1
  clear bQ
  go_wp2_with fail
  refine (HN _).mono ?_
  rintro ev w4 ⟨rfl, rfl⟩
  clear HN v7
  obtain ⟨t0, t1⟩ := aW r0 r1 (.int .i64 oN) (.int .i64 oA)
  go_wp2
  refine bodyPost_ret (v := .tuple #[.agg #[.int .i64 oN, .int .i64 oA], .nilIface]) (by simp [results, Tryz.results103, go_sem, t0, t1]; try rfl) rfl ?_
  exact ⟨(oN, oA), S2, P2, rfl, ((((Z eD).h_ (Or.inr rfl) 0 _).h_ (Or.inr rfl) 1 _).less fun j E => Or.inl E), ((Z fY).box (Z HV) (Nat.le_refl _) 0 _).box (Z HV) (Nat.le_refl _) 1 _, Z WL⟩
end
end Pl
end Go.Proofs.YtcbmfakjfoggaaaGreatDoor
namespace Go.Proofs.YtcbmfakjfoggaaaGreatDoor
open Go.RowKit Go.Maps
namespace Pl
open Fr Bd Zn Dz Sb Mg
section
variable {B : Nat} {w w' : World} {s p m : Nat} {S : Ss9} {e : Nat → Addr}
theorem SM9.last (h : SM9 B w s p m S) {n : Nat} (hn : S.last ≤ n ∧ n ≤ 1000000) : SM9 B (w.setCell ⟨s, 4, none⟩ (.int .i64 n)) s p m { S with last := n } := by
  have hne : ∀ j, j ≠ s → (w.setCell ⟨s, 4, none⟩ (.int .i64 (n : Int))).heap[j]? = w.heap[j]? := fun j E => Below.heap_setCell _ _ _ _ E
  have hm : m ≠ s := fun q => by
    obtain ⟨o', e1, e2⟩ := h.mi.aQ
    exact aj e1 e2 h.tg q
  exact { h with
    c0 := (bu (by simp)).trans h.c0, c1 := (bu (by simp)).trans h.c1, c2 := (bu (by simp)).trans h.c2, c3 := (bu (by simp)).trans h.c3, c4 := fK h.c4
    tg := h.tg.set _ _
    fz := fun o => (World.frozen?_setCell _ _ _ _).trans (h.fz o)
    mi := h.mi.blk (hne m hm)
    k := fun t b e => by
      obtain ⟨k1, k2, k3, k4, k5, k6⟩ := h.k t b e
      exact ⟨k1.keep (hne b (k1.tg.ne h.tg (by decide))) (hne _ (k1.rt.ne h.tg (by decide))), k2, k3, k4, by show t ≤ (n : Int); omega, k6⟩
    lst := hn.2 }
theorem SM9.put (h : SM9 B w s p m S) {t : Nat} (ht : 1 ≤ t ∧ t ≤ S.last) (hft : S.f t = none) {b : Nat} {x : Bs} (J : Bk9 w b x) (hB : B ≤ b ∧ B ≤ x.q) (hl : x.l.length = S.sz) (hn : 1 ≤ x.n ∧ x.n ≤ 16) (gY : ∀ t' b', S.f t' = some b' → b' ≠ b ∧ (S.g b').q ≠ x.q) (hq : S.q < maxLen) :
    ∃ w', (Instr.mapUpdate 187 (.map (some m)) (.int .i64 t) (.pointer (some ⟨b, 0, none⟩))).run Tryz.prog w = .ok () w' ∧ SM9 B w' s p m { S with q := S.q + 1, n := S.n + 1, f := upI S.f t (some b), g := upG S.g b x } ∧ Kept m m w w' := by
  have hw : (Lit.int .i64 (t : Int)).wf = true := by
    have := h.lst
    simp [Lit.wf, IntKind.min, IntKind.max, IntKind.signed, IntKind.bits]; omega
  obtain ⟨w', hr, hm, D⟩ := h.mi.put hq hw hft b
  obtain ⟨o, e1, e2⟩ := h.mi.aQ
  have hne : ∀ j κ, Tag w j κ → w'.heap[j]? = w.heap[j]? := fun j κ E => D.block j E.lt (fun q => aj e1 e2 E q.symm) (fun q => aj e1 e2 E q.symm)
  have K := fun j => World.cell?_of_block (w := w) (a := ⟨s, j, none⟩) (hne s _ h.tg)
  have hbk : Bk9 w' b x := J.keep (hne _ _ J.tg) (hne _ _ J.rt)
  refine ⟨w', hr, ?_, D⟩
  exact { h with
    c0 := (K 0).trans h.c0, c1 := (K 1).trans h.c1, c2 := (K 2).trans h.c2, c3 := (K 3).trans h.c3, c4 := (K 4).trans h.c4
    tg := h.tg.blk (hne s _ h.tg)
    fz := fun o => (World.frozen?_of_block (w := w) (a := ⟨s, o, none⟩) (hne s _ h.tg)).trans (h.fz o)
    mi := hm
    k := fun t' b' e => by
      by_cases htt : t' = t
      · subst htt
        simp only [upI_at, Option.some.injEq] at e
        subst e
        simp only [upG_at]
        exact ⟨hbk, hB.1, hB.2, by omega, by have := ht.2; show (t : Int) ≤ (S.last : Int); omega, hl, hn⟩
      · simp only [upI_ne htt] at e
        obtain ⟨k1, k2⟩ := h.k t' b' e
        simp only [upG_ne (gY t' b' e).1]
        exact ⟨k1.keep (hne _ _ k1.tg) (hne _ _ k1.rt), k2⟩
    inj := fun t1 t2 b' e1 e2 => by
      by_cases G : t1 = t <;> by_cases O : t2 = t
      · rw [G, O]
      · subst G
        simp only [upI_at, Option.some.injEq] at e1
        simp only [upI_ne O] at e2
        exact absurd e1.symm (gY t2 b' e2).1
      · subst O
        simp only [upI_at, Option.some.injEq] at e2
        simp only [upI_ne G] at e1
        exact absurd e2.symm (gY t1 b' e1).1
      · simp only [upI_ne G] at e1
        simp only [upI_ne O] at e2
        exact h.inj t1 t2 b' e1 e2
    rows := fun t1 t2 b1 b2 e1 e2 hqq => by
      by_cases G : t1 = t <;> by_cases O : t2 = t
      · subst G; subst O
        rw [e1] at e2
        exact Option.some.inj e2
      · subst G
        simp only [upI_at, Option.some.injEq] at e1
        simp only [upI_ne O] at e2
        subst e1
        simp only [upG_at, upG_ne (gY t2 b2 e2).1] at hqq
        exact absurd hqq.symm (gY t2 b2 e2).2
      · subst O
        simp only [upI_at, Option.some.injEq] at e2
        simp only [upI_ne G] at e1
        subst e2
        simp only [upG_at, upG_ne (gY t1 b1 e1).1] at hqq
        exact absurd hqq (gY t1 b1 e1).2
      · simp only [upI_ne G] at e1
        simp only [upI_ne O] at e2
        simp only [upG_ne (gY t1 b1 e1).1, upG_ne (gY t2 b2 e2).1] at hqq
        exact h.rows t1 t2 b1 b2 e1 e2 hqq }
end
end Pl
end Go.Proofs.YtcbmfakjfoggaaaGreatDoor
namespace Go.Proofs.YtcbmfakjfoggaaaGreatDoor
open Go.RowKit Go.Maps
namespace Pl
open Fr Bd Zn Dz Sb Mg
theorem info5b : (Tryz.prog.info? 5).map (fun i => (i.zero, i.size, i.bytes)) = some (some (.int .u8 0), 1, 1) := by kernel_rfl
theorem make_bytes (n : Nat) (hn : n ≤ 64) (W : World) : (Instr.makeSlice 80 (.int .i64 (n : Int)) (.int .i64 (n : Int))).run Tryz.prog W = .ok (.slice (some ⟨W.heap.size, 0, none⟩) n n) (W.alloc (.cells (Lib.byteCells (List.replicate n 0)).toArray 5)) := by
  obtain ⟨i0, h0, hz0, hz1, hz2⟩ := info_parts info5b
  have := run_makeSlice (P := Tryz.prog) W 80 5 i0 (.int .u8 0) Tryz.underlying80 h0 hz0 .i64 .i64 n n (by omega) (by omega) (by rw [hz1]; simp; omega) (by rw [hz2]; omega) (by omega)
  rw [hz1] at this
  have e : madeCells (Value.int .u8 0).cells n = (Lib.byteCells (List.replicate n 0)).toArray := by
    apply Array.ext'
    rw [show (Value.int .u8 0).cells = #[Value.int .u8 0] from rfl, toList_madeCells_one]
    simp [Lib.byteCells]
  rw [← e]
  simpa using this
section
variable {B : Nat} {C : Dc} {ab7 V' : Nat → Prop} {X : Nat → Option Obj} {Y F ym m s : Nat} {S S' : Ds} {P P' : Ps} {w w' : World} {Z99 Z' : Ss9} {e : Nat → Addr}
set_option maxRecDepth 100000 in
set_option maxHeartbeats 16000000 in
theorem stake1_ok (h : SP9 B C ab7 X Y F ym S P s m Z99 w) (he : dM C.w0 e) (Hh : 11 < C.w0.heap.size) {x y : Int} (Φ : Bl → Ds → Ps → Prop) (hq : Z99.q < 1000000) (hlast : Z99.last < 1000000)
    (HT : ∀ ab7 W, SP9 B C ab7 X Y F ym S P s m Z99 W → Calls Tryz.prog 15 #[.pointer (some ⟨Y, 0, none⟩), .int .i64 x, .int .i64 y] W fun ev w' => ∃ (o : Bl) (S' : Ds) (P' : Ps), ev = .returned (.tuple #[bz o.1 o.2, .nilIface]) ∧ PD B C ab7 X Y F ym S' P' w' ∧ PF ab7 P P' W w' ∧ Φ o S' P') :
    Calls Tryz.prog 35 #[.pointer (some ⟨s, 0, none⟩), .int .i64 x, .int .i64 y] w fun ev w' => ev = .returned (.tuple #[.int .i64 ((Z99.last : Int) + 1), .nilIface]) ∧ ∃ (o : Bl) (S' : Ds) (P' : Ps) (b q' : Nat) (X' : Nat → Option Obj), Φ o S' P' ∧
      SP9 B C ab7 X' Y F ym S' P' s m { Z99 with last := Z99.last + 1, q := Z99.q + 1, n := Z99.n + 1, f := upI Z99.f ((Z99.last : Int) + 1) (some b), g := upG Z99.g b ⟨o, List.replicate Z99.sz 0, 1, q'⟩ } w' := by
  have HC := I (object_ok h he Hh Φ HT)
  have HZ := I (And.intro hq hlast)
  have hs64 := h.k.sz1
  have HMB := I (make_bytes Z99.sz hs64.2)
  clear h he HT
  unfold bz at *
  go_enter Tryz.func35, Tryz.ntmps35
  go_wp2_with fail
  refine (Z HC).mono ?_
  rintro ev w2 ⟨⟨oN, oA⟩, S2, P2, rfl, H2, F2, yx⟩
  have F3 := χ (Below.refl w2.heap.size w2) (.cells #[.int .i64 oN, .int .i64 oA] 34)
  have H3 := I (H2.b F3)
  have WL := I yx
  have q' := World.cell?_alloc_new w2 #[.int .i64 oN, .int .i64 oA] 34
  have q0 := q' 0
  have q1 := q' 1
  simp only [List.getElem?_toArray, List.getElem?_cons_zero, List.getElem?_cons_succ] at q0 q1
  have T9 := bB w2 #[.int .i64 oN, .int .i64 oA] 34
  have c4 := (Z H3).k.c4
  have f4 := (Z H3).k.fz 4
  have hw : IntKind.i64.wrap ((Z99.last : Int) + 1) = (Z99.last : Int) + 1 := IntWalk.i64_in _ (by have := (Z HZ).2; omega)
  have e1 : ((Z99.last + 1 : Nat) : Int) = (Z99.last : Int) + 1 := by omega
  have oG : C.w0.heap.size ≤ s := Nat.le_trans H2.d.hB H2.k.ge.1
  have hfn : Z99.f (Z99.last + 1 : Nat) = none := by
    cases hf : Z99.f (Z99.last + 1 : Nat) with
    | none => rfl
    | some b =>
      have := ((Z H3).k.k _ b hf).2.2.2.2.1
      omega
  have HFN := I hfn
  have hgm : C.w0.heap.size ≤ m := Nat.le_trans H2.d.hB H2.k.ge.2
  have HS := (Z H3).k.last (n := Z99.last + 1) ⟨by omega, by have := (Z HZ).2; omega⟩
  have K4 := (Z H3).own (Kp.set _ s 4 (.int .i64 (Z99.last + 1 : Nat)) ⟨oG, Or.inl ⟨189, (Z H3).k.tg, by decide⟩⟩) HS
  have b9l : w2.heap.size < ((w2.alloc (.cells #[.int .i64 oN, .int .i64 oA] 34)).setCell ⟨s, 4, none⟩ (.int .i64 ((Z99.last : Int) + 1))).heap.size := by simp
  have hne : w2.heap.size ≠ s := fun q => T9.ne (Z H3).k.tg (by decide) q
  have b0 := (bu (a := ⟨s, 4, none⟩) (v := .int .i64 (Z99.last + 1 : Nat)) (by simp)).trans q0
  have b1 := (bu (a := ⟨s, 4, none⟩) (v := .int .i64 (Z99.last + 1 : Nat)) (by simp)).trans q1
  rw [e1] at K4 b0 b1
  have YY := I K4
  clear HC H2 F2 yx hfn q' F3 q0 q1 T9 HS K4 hne oG
  simp only at *
  go_upto_region 5 with (fail)
  clear c4 f4
  generalize (w2.alloc (.cells #[.int .i64 oN, .int .i64 oA] 34)).setCell ⟨s, 4, none⟩ (.int .i64 ((Z99.last : Int) + 1)) = W4 at *
  generalize w2.heap.size = b9 at *
  have c2 := (Z YY).k.c2
  have c3 := (Z YY).k.c3
  have c4 := (Z YY).k.c4
  simp only at c2 c3 c4
  rw [e1] at c4
  have YN := (Z YY).k.tg.lt
  have F5 := (χ (χ (Below.refl W4.heap.size W4) (.cells (Lib.byteCells (List.replicate Z99.sz 0)).toArray 5)) (.cells #[.int .i64 oN, .int .i64 oA, .slice (some ⟨W4.heap.size, 0, none⟩) Z99.sz Z99.sz, .int .i64 1] 192)).drew
  have K5 := (Z YY).b F5
  have hms := (Z HMB) W4.drew
  have hsz : (W4.alloc (.cells (Lib.byteCells (List.replicate Z99.sz 0)).toArray 5)).heap.size = W4.heap.size + 1 := by simp
  have q' := World.cell?_alloc_new (W4.alloc (.cells (Lib.byteCells (List.replicate Z99.sz 0)).toArray 5)) #[.int .i64 oN, .int .i64 oA, .slice (some ⟨W4.heap.size, 0, none⟩) Z99.sz Z99.sz, .int .i64 1] 192
  have tg := bB (W4.alloc (.cells (Lib.byteCells (List.replicate Z99.sz 0)).toArray 5)) #[.int .i64 oN, .int .i64 oA, .slice (some ⟨W4.heap.size, 0, none⟩) Z99.sz Z99.sz, .int .i64 1] 192
  rw [hsz] at q' tg
  have hrow : (W4.alloc (.cells (Lib.byteCells (List.replicate Z99.sz 0)).toArray 5)).heap[W4.heap.size]? = some (.cells (Lib.byteCells (List.replicate Z99.sz 0)).toArray 5 (0, 0)) := by
    show (W4.heap.push _)[W4.heap.size]? = _
    simp
  have HBk0 : Bk9 ((W4.alloc (.cells (Lib.byteCells (List.replicate Z99.sz 0)).toArray 5)).alloc (.cells #[.int .i64 oN, .int .i64 oA, .slice (some ⟨W4.heap.size, 0, none⟩) Z99.sz Z99.sz, .int .i64 1] 192)) (W4.heap.size + 1) ⟨(oN, oA), List.replicate Z99.sz 0, 1, W4.heap.size⟩ :=
    ⟨q' 0, q' 1, (q' 2).trans (by simp [bsV]), q' 3, tg, fun o => World.frozen?_alloc_at _ _ (W4.heap.size + 1) o hsz.symm, ((χ (Below.refl _ _) _).block W4.heap.size (by rw [hsz]; omega)).trans hrow⟩
  have HBk := HBk0.b (dw _)
  obtain ⟨w5, xS, K6, hkp⟩ := K5.k.put (t := Z99.last + 1) ⟨by omega, Nat.le_refl _⟩ (Z HFN) HBk ⟨Nat.le_trans K5.k.ge.1 (by have := (Z YY).k.tg.lt; omega), Nat.le_trans K5.k.ge.1 (by have := (Z YY).k.tg.lt; show s ≤ W4.heap.size; omega)⟩ (by simp) ⟨Nat.le_refl _, by show 1 ≤ 16; omega⟩ (fun t' b' e' => by
    have G := ((Z YY).k.k t' b' e').1
    have O := G.tg.lt
    have h3 : (Z99.g b').q < W4.heap.size := G.rt.lt
    exact ⟨by omega, by show (Z99.g b').q ≠ W4.heap.size; omega⟩) (by show Z99.q < maxLen; have := (Z HZ).1; unfold maxLen; omega)
  rw [e1] at xS K6
  have Dh := I (K5.own (Kp.kept hkp ⟨hgm, Or.inr rfl⟩ ⟨hgm, Or.inr rfl⟩) K6)
  have c45 := K6.c4
  simp only at c45
  rw [e1] at c45
  clear YY F5 K5 q' tg hrow HBk HBk0 K6 hkp hsz HFN hgm HMB H3
  go_region
  all_goals
    clear xS hms b0 b1 c2 c3 c4
    go_wp2
    refine bodyPost_ret (v := .tuple #[.int .i64 ((Z99.last : Int) + 1), .nilIface]) (by simp [results, Tryz.results35, go_sem]; try rfl) rfl ?_
    exact ⟨rfl, oN, oA, S2, P2, Z WL, W4.heap.size + 1, W4.heap.size, _, Z Dh⟩
end
end Pl
end Go.Proofs.YtcbmfakjfoggaaaGreatDoor
namespace Go.Proofs.YtcbmfakjfoggaaaGreatDoor
open Go.RowKit Go.Maps
namespace Pl
open Fr Bd Zn Dz Sb Mg
section
variable {B : Nat} {w w' : World} {s p m : Nat} {S : Ss9} {e : Nat → Addr}
set_option maxRecDepth 100000 in
theorem drop_none (h : SM9 B w s p m S) (he : dM w e) {t : Int} (ht : (Lit.int .i64 t).wf = true) (hf : S.f t = none) (x : Int) : Calls Tryz.prog 42 #[.pointer (some ⟨s, 0, none⟩), .int .i64 x, .int .i64 t] w fun ev w' => ev = .returned (bc (e 3)) ∧ w' = w := by
  have c3 := h.c3
  have v3 := he.v3
  have hl := h.mi.look ht
  rw [hf] at hl
  unfold bc L8 at *
  clear h he
  go_enter Tryz.func42, Tryz.ntmps42
  go_wp2
  go_ret
  exact ⟨rfl, rfl⟩
set_option maxRecDepth 100000 in
theorem drop_bound (h : SM9 B w s p m S) (he : dM w e) {t : Int} (ht : (Lit.int .i64 t).wf = true) {b : Nat} (hf : S.f t = some b) {x : Int} (hx : ¬ (0 ≤ x ∧ x < S.ws)) : Calls Tryz.prog 42 #[.pointer (some ⟨s, 0, none⟩), .int .i64 x, .int .i64 t] w fun ev w' => ev = .returned (bc (e 1)) ∧ w' = w := by
  have c3 := h.c3
  have c1 := h.c1
  have v1 := he.v1
  have hl := h.mi.look ht
  rw [hf] at hl
  generalize S.ws = k at *
  unfold bc L8 at *
  clear h he
  by_cases h0 : x < 0
  · have d1 : decide (x < 0) = true := by simpa using h0
    go_enter Tryz.func42, Tryz.ntmps42
    go_wp2
    go_ret
    exact ⟨rfl, rfl⟩
  · have d1 : decide (x < 0) = false := by simpa using h0
    have d2 : decide (x ≥ (k : Int)) = true := by simp; omega
    have d3 : decide ((k : Int) ≤ x) = true := by simp; omega
    go_enter Tryz.func42, Tryz.ntmps42
    go_wp2
    go_ret
    exact ⟨rfl, rfl⟩
set_option maxRecDepth 100000 in
theorem drop_more (h : SM9 B w s p m S) {t : Int} (ht : (Lit.int .i64 t).wf = true) {b : Nat} (hf : S.f t = some b) {x : Int} (hx : 0 ≤ x ∧ x < S.ws) (hn : 1 < (S.g b).n) : Calls Tryz.prog 42 #[.pointer (some ⟨s, 0, none⟩), .int .i64 x, .int .i64 t] w fun ev w' => ev = .returned .nilIface ∧ w' = w.setCell ⟨b, 3, none⟩ (.int .i64 (((S.g b).n : Int) - 1)) ∧ SM9 B w' s p m { S with g := upG S.g b { S.g b with n := (S.g b).n - 1 } } := by
  have abc := (h.k t b hf).2.2.2.2.2.2.2
  have e1 : (((S.g b).n - 1 : Nat) : Int) = ((S.g b).n : Int) - 1 := by omega
  have hS := h.setn hf (n := (S.g b).n - 1) ⟨by omega, by omega⟩
  rw [e1] at hS
  have hR := I hS
  have c3 := h.c3
  have c1 := h.c1
  have hl := h.mi.look ht
  have k3 := (h.k t b hf).1.c3
  have f3 := (h.k t b hf).1.fz 3
  have d1 : decide (x < 0) = false := by simp; omega
  have d2 : decide (x ≥ (S.ws : Int)) = false := by simp; omega
  have d3 : decide ((S.ws : Int) ≤ x) = false := by simp; omega
  have hw : IntKind.i64.wrap (((S.g b).n : Int) - 1) = ((S.g b).n : Int) - 1 := IntWalk.i64_in _ (by omega)
  have k3' : (w.setCell ⟨b, 3, none⟩ (.int .i64 (((S.g b).n : Int) - 1))).cell? ⟨b, 3, none⟩ = some (.int .i64 (((S.g b).n : Int) - 1)) := fK k3
  have d4 : ((((S.g b).n : Int) - 1) == 0) = false := by simp; omega
  have d5 : decide ((((S.g b).n : Int) - 1) = 0) = false := by simp; omega
  rw [hf] at hl
  unfold L8 at *
  clear h hS hx hn abc
  go_enter Tryz.func42, Tryz.ntmps42
  go_wp2
  go_ret
  exact ⟨rfl, rfl, Z hR⟩
end
end Pl
end Go.Proofs.YtcbmfakjfoggaaaGreatDoor
namespace Go.Proofs.YtcbmfakjfoggaaaGreatDoor
open Go.RowKit Go.Maps
namespace Pl
open Fr Bd Zn Dz Sb Mg
section
variable {B : Nat} {w w' : World} {s p m : Nat} {S : Ss9} {e : Nat → Addr}
set_option maxRecDepth 100000 in
theorem own_none (h : SM9 B w s p m S) (he : dM w e) {t : Int} (ht : (Lit.int .i64 t).wf = true) (hf : S.f t = none) (x y : Int) : Calls Tryz.prog 39 #[.pointer (some ⟨s, 0, none⟩), .int .i64 x, .int .i64 y, .int .i64 t] w fun ev w' => ev = .returned (.tuple #[.int .i64 0, bc (e 3)]) ∧ Below w.heap.size w w' := by
  have c3 := h.c3
  have v3 := he.v3
  have hl := h.mi.look ht
  rw [hf] at hl
  unfold bc L8 at *
  clear h he
  go_enter Tryz.func39, Tryz.ntmps39
  go_wp2_with fail
  go_quiet (fail)
  have J := I (iB (Below.refl w.heap.size w) nq)
  clear v3 c3 hl
  generalize w.drewN nq = W at *
  go_wp2
  refine bodyPost_ret (v := .tuple #[.int .i64 0, .iface 424 (.pointer (some (e 3)))]) (by simp [results, Tryz.results39, go_sem]; try rfl) rfl ?_
  exact ⟨rfl, Z J⟩
set_option maxRecDepth 100000 in
theorem own_one (h : SM9 B w s p m S) {t : Int} (ht : (Lit.int .i64 t).wf = true) {b : Nat} (hf : S.f t = some b) (hn : (S.g b).n = 1) (x y : Int) : Calls Tryz.prog 39 #[.pointer (some ⟨s, 0, none⟩), .int .i64 x, .int .i64 y, .int .i64 t] w fun ev w' => ev = .returned (.tuple #[.int .i64 t, .nilIface]) ∧ w' = w := by
  have c3 := h.c3
  have hl := h.mi.look ht
  have k3 := (h.k t b hf).1.c3
  rw [hn] at k3
  rw [hf] at hl
  unfold L8 at *
  clear h
  go_enter Tryz.func39, Tryz.ntmps39
  go_wp2
  refine bodyPost_ret (v := .tuple #[.int .i64 t, .nilIface]) (by simp [results, Tryz.results39, go_sem]; try rfl) rfl ?_
  exact ⟨rfl, rfl⟩
end
end Pl
end Go.Proofs.YtcbmfakjfoggaaaGreatDoor
namespace Go.Proofs.YtcbmfakjfoggaaaGreatDoor
open Go.RowKit Go.Maps
namespace Pl
open Fr Bd Zn Dz Sb Mg
theorem copy_bytes {w : World} {b d : Nat} {x y : Bs} (J : Bk9 w b x) (hd : Bk9 w d y) (hl : x.l.length = y.l.length) (ty : TypeId) : (Builtin.copy_ #[80, 80] ty #[bsV y, bsV x]).run Tryz.prog w = .ok (goInt x.l.length) (w.setRow y.q (Lib.byteCells x.l).toArray) := by
  have K := Lib.byteCells_length x.l
  have hc2 := Lib.byteCells_length y.l
  have := run_copy_row (P := Tryz.prog) w 80 80 ty 5 y.q 0 y.l.length y.l.length ⟨x.q, 0, none⟩ x.l.length x.l.length _ 5 (Lib.byteCells x.l) Tryz.underlying80 (by kernel_rfl) hd.r (by rw [K, hl]; simp) (fun j v E => by
    have e : (⟨x.q, 0, none⟩ : Addr).add j = ⟨x.q, j, none⟩ := by simp [Addr.add]; intro q; exact q.symm
    rw [e]
    unfold World.cell?
    rw [J.r]
    simpa using E) (by simp [K, hc2]; omega) (Lib.byteCells_one _)
  unfold bsV
  rw [this]
  have Gi : List.drop y.l.length (Lib.byteCells y.l) = [] := List.drop_of_length_le (by omega)
  simp [K, hl, Gi]
theorem upG_up (g : Nat → Bs) (b : Nat) (x y : Bs) : upG (upG g b x) b y = upG g b y := by
  funext j
  by_cases h : j = b
  · rw [h, upG_at, upG_at]
  · rw [upG_ne h, upG_ne h, upG_ne h]
section
variable {B : Nat} {C : Dc} {ab7 V' : Nat → Prop} {X : Nat → Option Obj} {Y F ym m s : Nat} {S S' : Ds} {P P' : Ps} {w w' : World} {Z99 Z' : Ss9} {e : Nat → Addr}
set_option maxRecDepth 100000 in
set_option maxHeartbeats 16000000 in
theorem own_more (h : SP9 B C ab7 X Y F ym S P s m Z99 w) (he : dM C.w0 e) (Hh : 11 < C.w0.heap.size) {x y : Int} (Φ : Bl → Ds → Ps → Prop) (hq : Z99.q < 1000000) (hlast : Z99.last < 1000000)
    (HT : ∀ ab7 W, SP9 B C ab7 X Y F ym S P s m Z99 W → Calls Tryz.prog 15 #[.pointer (some ⟨Y, 0, none⟩), .int .i64 x, .int .i64 y] W fun ev w' => ∃ (o : Bl) (S' : Ds) (P' : Ps), ev = .returned (.tuple #[bz o.1 o.2, .nilIface]) ∧ PD B C ab7 X Y F ym S' P' w' ∧ PF ab7 P P' W w' ∧ Φ o S' P')
    {t : Int} (ht : (Lit.int .i64 t).wf = true) {b : Nat} (hf : Z99.f t = some b) (hn : 1 < (Z99.g b).n) :
    Calls Tryz.prog 39 #[.pointer (some ⟨s, 0, none⟩), .int .i64 x, .int .i64 y, .int .i64 t] w fun ev w' => ev = .returned (.tuple #[.int .i64 ((Z99.last : Int) + 1), .nilIface]) ∧ ∃ (o : Bl) (S' : Ds) (P' : Ps) (b' q' : Nat) (X' : Nat → Option Obj), Φ o S' P' ∧ b' ≠ b ∧
      SP9 B C ab7 X' Y F ym S' P' s m { Z99 with last := Z99.last + 1, q := Z99.q + 1, n := Z99.n + 1, f := upI Z99.f ((Z99.last : Int) + 1) (some b'), g := upG (upG Z99.g b' ⟨o, (Z99.g b).l, 1, q'⟩) b { Z99.g b with n := (Z99.g b).n - 1 } } w' := by
  have HC := I (stake1_ok h he Hh Φ hq hlast HT)
  have c3 := h.k.c3
  have hl := h.k.mi.look ht
  have hkb := h.k.k t b hf
  have k3 := hkb.1.c3
  have d4 : (((Z99.g b).n : Int) == 1) = false := by simp; omega
  have d5 : decide (((Z99.g b).n : Int) = 1) = false := by simp; omega
  rw [hf] at hl
  have HKB := I hkb
  have HHF := I hf
  unfold L8 at *
  clear h he HT hkb hf
  go_enter Tryz.func39, Tryz.ntmps39
  go_wp2_with fail
  refine (Z HC).mono ?_
  rintro ev w2 ⟨rfl, o, S2, P2, b', q', X', yx, H2⟩
  obtain ⟨_, hBb, ZN, Y5, uX, k6, kn1, kn16⟩ := Z HKB
  have hft2 : upI Z99.f ((Z99.last : Int) + 1) (some b') t = some b := by rw [upI_ne (by omega)]; exact Z HHF
  have hfd2 : upI Z99.f ((Z99.last : Int) + 1) (some b') ((Z99.last : Int) + 1) = some b' := upI_at _ _ _
  have LP : b' ≠ b := fun q => by
    subst q
    have := H2.k.inj _ _ _ hft2 hfd2
    omega
  have Kd9 := (H2.k.k _ b' hfd2).1
  have Kb := (H2.k.k t b hft2).1
  simp only [upG_at] at Kd9
  simp only [upG_ne LP.symm] at Kb
  have hcp := fun ty => copy_bytes (Kb.b (dw w2)) (Kd9.b (dw w2)) (by simp [k6]) ty
  have HD := H2.b (dw w2)
  have hSL := HD.k.setl hfd2 (l := (Z99.g b).l) k6
  simp only [upG_at, upG_up] at hSL
  have oG : C.w0.heap.size ≤ q' := Nat.le_trans H2.d.hB (by have := (H2.k.k _ b' hfd2).2.2.1; simpa only [upG_at] using this)
  have hgb : C.w0.heap.size ≤ b := Nat.le_trans H2.d.hB hBb
  have K3 := HD.own (w' := w2.drew.setRow q' (Lib.byteCells (Z99.g b).l).toArray) ⟨rfl, rfl, rfl, by simp, fun j _ hn => setRow_other _ _ _ _ (fun e => hn ⟨e ▸ oG, Or.inl ⟨5, e ▸ (Kd9.b (dw w2)).rt, by decide⟩⟩)⟩ hSL
  have e1 : (((Z99.g b).n - 1 : Nat) : Int) = ((Z99.g b).n : Int) - 1 := by omega
  have hS4 := K3.k.setn hft2 (n := (Z99.g b).n - 1) ⟨by omega, by omega⟩
  simp only [upG_ne LP.symm] at hS4
  have Kb3 := (K3.k.k t b hft2).1
  simp only [upG_ne LP.symm] at Kb3
  have K4 := K3.own (Kp.set _ b 3 _ ⟨hgb, Or.inl ⟨192, Kb3.tg, by decide⟩⟩) hS4
  rw [e1] at K4
  have YY := I K4
  have c32 := H2.k.c3
  have hwl : (Lit.int .i64 ((Z99.last : Int) + 1)).wf = true := by simp [Lit.wf, IntKind.min, IntKind.max, IntKind.signed, IntKind.bits]; omega
  have hl2 := HD.k.mi.look hwl
  simp only [upI_at] at hl2
  have kd2 := Kd9.c2
  have kb2 := Kb.c2
  have kb3 := Kb3.c3
  have fb3 := Kb3.fz 3
  have hw : IntKind.i64.wrap (((Z99.g b).n : Int) - 1) = ((Z99.g b).n : Int) - 1 := IntWalk.i64_in _ (by omega)
  unfold bsV L8 at *
  simp only [List.length_replicate, k6] at kd2 kb2 hcp
  have WL := I yx
  have NG := I LP
  clear HC yx H2 HD hSL K3 hS4 K4 Kb3 Kb Kd9 oG hgb hl c3 k3 d4 d5 HKB HHF hft2 hfd2 LP hBb ZN Y5 uX kn1 kn16 k6 hwl e1 hq hlast hn
  go_upto_region 9 with (fail)
  go_region
  all_goals
    clear hl2 hcp kd2 kb2 c32
    generalize w2.drew.setRow q' (Lib.byteCells (Z99.g b).l).toArray = W3 at *
    go_wp2
    refine bodyPost_ret (v := .tuple #[.int .i64 ((Z99.last : Int) + 1), .nilIface]) (by simp [results, Tryz.results39, go_sem]; try rfl) rfl ?_
    exact ⟨rfl, o, S2, P2, b', q', _, Z WL, Z NG, Z YY⟩
end
end Pl
end Go.Proofs.YtcbmfakjfoggaaaGreatDoor
