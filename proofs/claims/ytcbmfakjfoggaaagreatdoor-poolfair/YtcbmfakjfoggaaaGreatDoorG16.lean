/- The package's cache in memory · The library's Insert at pointers to slabs, by contract: over a row that the cache owns · The library's Insert at pointers to slabs: where there is no room; at the end; all ways in one. -/
import Derived.Test.YtcbmfakjfoggaaaGreatDoorG11
import Derived.Test.YtcbmfakjfoggaaaGreatDoorG13
import Derived.Test.YtcbmfakjfoggaaaGreatDoorG15
import Derived.Test.YtcbmfakjfoggaaaGreatDoorG00
import Derived.Shelf.Spec.SlicesInsert
import Derived.Lib.AppendZerosOnto
import Derived.Laws.NewBlocks
import Derived.Laws.AppendOwn
import Derived.Shelf.Spec.SlicesInsertGrow
namespace Go.Proofs.YtcbmfakjfoggaaaGreatDoor
open Go.RowKit Go.Maps
namespace Sb
open Fr Bd Zn Dz
/-- Blocks of such types stay. -/
def Same (ts : List TypeId) (w w' : World) : Prop := ∀ b t, t ∈ ts → Tag w b t → w'.heap[b]? = w.heap[b]?
theorem same_below {ts : List TypeId} {w w' : World} (h : Below w.heap.size w w') : Same ts w w' := fun b _ _ ht => h.block b ht.lt
theorem same_tag {ts : List TypeId} {w w' : World} {A : Nat} {s : TypeId} (hk : Kept A A w w') (hs : Tag w A s) (hn : s ∉ ts) : Same ts w w' := fun b t hm ht => by
  have hne : b ≠ A := ht.ne hs (fun e => hn (e ▸ hm))
  exact hk.block b ht.lt hne hne
theorem tag_same {ts : List TypeId} {w w' : World} (h : Same ts w w') {b : Nat} {t : TypeId} (hm : t ∈ ts) (ht : Tag w b t) : Tag w' b t := ht.blk (h b t hm ht)
theorem cell_same {ts : List TypeId} {w w' : World} (h : Same ts w w') {b : Nat} {t : TypeId} (hm : t ∈ ts) (ht : Tag w b t) (j : Nat) : w'.cell? ⟨b, j, none⟩ = w.cell? ⟨b, j, none⟩ := World.cell?_of_block (w := w) (h b t hm ht)
theorem own_same {w w' : World} {b e size n : Nat} {v : Value} {xs : List Value} (h : w.ownsRow b e size v n xs) {ts : List TypeId} (hs : Same ts w w') (hm : e ∈ ts) : w'.ownsRow b e size v n xs := by
  refine ⟨h.1, ?_⟩
  rcases h.2 with h2 | ⟨g, cap, cur, h1, h2, h3, h4⟩
  · exact Or.inl h2
  · exact Or.inr ⟨g, cap, cur, h1, h2, (hs g e hm ⟨cur, _, h3⟩).trans h3, h4⟩
/-- A slab in memory. -/
structure SLm (w : World) (b : Nat) (s : Sl) : Prop where
  c0 : w.cell? ⟨b, 0, none⟩ = some (.int .i64 s.nd)
  c1 : w.cell? ⟨b, 1, none⟩ = some (.int .i64 s.at_)
  c2 : w.cell? ⟨b, 2, none⟩ = some (.int .i64 0)
  c3 : w.cell? ⟨b, 3, none⟩ = some (.int .u64 s.bm)
  tg : Tag w b 300
  fz : ∀ o, w.frozen? ⟨b, o, none⟩ = false
theorem SLm.same {w w' : World} {b : Nat} {s : Sl} (h : SLm w b s) (hb : w'.heap[b]? = w.heap[b]?) : SLm w' b s :=
  ⟨(World.cell?_of_block (w := w) hb).trans h.c0, (World.cell?_of_block (w := w) hb).trans h.c1, (World.cell?_of_block (w := w) hb).trans h.c2, (World.cell?_of_block (w := w) hb).trans h.c3, h.tg.blk hb, fun o => (World.frozen?_of_block (w := w) (a := ⟨b, o, none⟩) hb).trans (h.fz o)⟩
theorem SLm.b {w w' : World} {b : Nat} {s : Sl} (h : SLm w b s) (hb : Below w.heap.size w w') : SLm w' b s := h.same (hb.block b h.tg.lt)
/-- What holds of a slab among others. -/
def sok (m : Nat) (s : Sl) : Prop := 0 ≤ s.at_ ∧ s.at_ < 256 ∧ s.bm < 2 ^ m ∧ s.nd < 1000
def ptrl (bs : List Nat) : List Value := bs.map ptr
theorem ptrl_at {bs : List Nat} {i b : Nat} (h : bs[i]? = some b) : (ptrl bs)[i]? = some (ptr b) := by simp [ptrl, h]
def kind : Obj → Option TypeId
  | .cells _ t _ => some t
  | _ => none
/-- The map of what lies on trays: its block, and what stands there. -/
abbrev Ly := Nat × Obj × (Nat → Option Obj)
/-- That map's block, and others' maps, which stay as they are. -/
def Lk (ly : Ly) (k : Nat) : Prop := k = ly.1 ∨ ∃ o, ly.2.2 k = some o
/-- That map in memory. -/
structure LY (N0 : Nat) (w : World) (c : Nat) (ly : Ly) : Prop where
  c3 : w.cell? ⟨c, 3, none⟩ = some (.map (some ly.1))
  lm : w.heap[ly.1]? = some ly.2.1
  lk : kind ly.2.1 = none
  lg : N0 ≤ ly.1
  lx : ∀ j o, ly.2.2 j = some o → w.heap[j]? = some o ∧ kind o = none ∧ j ≠ ly.1
theorem LY.lt {N0 : Nat} {w : World} {c : Nat} {ly : Ly} (h : LY N0 w c ly) : ly.1 < w.heap.size := (Array.getElem?_eq_some_iff.mp h.lm).1
theorem LY.ne {N0 : Nat} {w : World} {c : Nat} {ly : Ly} (h : LY N0 w c ly) {b : Nat} {t : TypeId} (ht : Tag w b t) : ly.1 ≠ b := fun e => by
  obtain ⟨cur, fz, e2⟩ := ht
  have h1 := h.lm
  rw [e, e2] at h1
  have h2 := h.lk
  rw [← Option.some.inj h1] at h2
  cases h2
theorem kindless_ne {w : World} {j b : Nat} {o : Obj} {t : TypeId} (h : w.heap[j]? = some o) (hk : kind o = none) (ht : Tag w b t) : j ≠ b := fun e => by
  obtain ⟨cur, fz, e2⟩ := ht
  rw [e, e2] at h
  rw [← Option.some.inj h] at hk
  cases hk
theorem LY.ltk {N0 : Nat} {w : World} {c : Nat} {ly : Ly} (h : LY N0 w c ly) {j : Nat} (hj : Lk ly j) : j < w.heap.size := by
  rcases hj with rfl | ⟨o, e⟩
  · exact h.lt
  · exact (Array.getElem?_eq_some_iff.mp (h.lx j o e).1).1
theorem LY.nek {N0 : Nat} {w : World} {c : Nat} {ly : Ly} (h : LY N0 w c ly) {j : Nat} (hj : Lk ly j) {b : Nat} {t : TypeId} (ht : Tag w b t) : j ≠ b := by
  rcases hj with rfl | ⟨o, e⟩
  · exact h.ne ht
  · exact kindless_ne (h.lx j o e).1 (h.lx j o e).2.1 ht
theorem LY.set {N0 : Nat} {w w' : World} {c c' : Nat} {ly : Ly} (h : LY N0 w c ly) (h3 : w'.cell? ⟨c', 3, none⟩ = some (.map (some ly.1))) (hm : ∀ j, Lk ly j → w'.heap[j]? = w.heap[j]?) : LY N0 w' c' ly := ⟨h3, (hm _ (Or.inl rfl)).trans h.lm, h.lk, h.lg, fun j o e => ⟨(hm j (Or.inr ⟨o, e⟩)).trans (h.lx j o e).1, (h.lx j o e).2⟩⟩
/-- The package's cache in memory. -/
structure DC (N0 : Nat) (w : World) (c z : Nat) (ly : Ly) (sz : Int) (m : Nat) (bs : List Nat) (ss : List Sl) : Prop where
  c0 : w.cell? ⟨c, 0, none⟩ = some (ptr z)
  c1 : w.cell? ⟨c, 1, none⟩ = some (.int .i64 sz)
  c2 : ∃ p d, w.cell? ⟨c, 2, none⟩ = some (.slice p bs.length d) ∧ w.ownsRow N0 288 1 (.slice p bs.length d) bs.length (ptrl bs)
  tg : Tag w c 248
  ge : N0 ≤ c
  bg : ∀ b ∈ bs, N0 ≤ b
  len : bs.length = ss.length
  nd : bs.Nodup
  sl : ∀ (i : Nat) (b : Nat) (s : Sl), bs[i]? = some b → ss[i]? = some s → SLm w b s
  ok : ∀ s ∈ ss, sok m s
  so : Sorted ss
  cf : ∀ o, w.frozen? ⟨c, o, none⟩ = false
  mm : 1 ≤ sz ∧ sz ≤ 64 ∧ (m : Int) = 64 / sz
  ym : LY N0 w c ly
section
variable {N0 : Nat} {w w' : World} {c z : Nat} {ly : Ly} {sz : Int} {m : Nat} {bs : List Nat} {ss : List Sl}
theorem DC.same (h : DC N0 w c z ly sz m bs ss) (hs : Same [248, 288, 300] w w') (hm : ∀ j, Lk ly j → w'.heap[j]? = w.heap[j]?) : DC N0 w' c z ly sz m bs ss := by
  obtain ⟨p, d, e2, o2⟩ := h.c2
  have hc := fun j => cell_same hs (by simp) h.tg j
  exact ⟨(hc 0).trans h.c0, (hc 1).trans h.c1, ⟨p, d, (hc 2).trans e2, own_same o2 hs (by simp)⟩, tag_same hs (by simp) h.tg, h.ge, h.bg, h.len, h.nd, fun i b s h1 h2 => (h.sl i b s h1 h2).same (hs b 300 (by simp) (h.sl i b s h1 h2).tg), h.ok, h.so, fun o => (World.frozen?_of_block (w := w) (a := ⟨c, o, none⟩) (hs c 248 (by simp) h.tg)).trans (h.cf o), h.mm, h.ym.set ((hc 3).trans h.ym.c3) hm⟩
theorem DC.b (h : DC N0 w c z ly sz m bs ss) (hb : Below w.heap.size w w') : DC N0 w' c z ly sz m bs ss := h.same (same_below hb) (fun _j hj => hb.block _ (h.ym.ltk hj))
/-- A slab's number, its block, its values. -/
theorem DC.slab (h : DC N0 w c z ly sz m bs ss) {i : Nat} (hi : i < ss.length) : ∃ b s, bs[i]? = some b ∧ ss[i]? = some s ∧ SLm w b s ∧ sok m s := by
  have hb : i < bs.length := by rw [h.len]; exact hi
  exact ⟨_, _, List.getElem?_eq_getElem hb, List.getElem?_eq_getElem hi, h.sl i _ _ (List.getElem?_eq_getElem hb) (List.getElem?_eq_getElem hi), h.ok _ (List.getElem_mem hi)⟩
theorem DC.row (h : DC N0 w c z ly sz m bs ss) (hn : 0 < ss.length) : ∃ g d, w.cell? ⟨c, 2, none⟩ = some (.slice (some ⟨g, 0, none⟩) ss.length d) ∧ w.ownsRow N0 288 1 (.slice (some ⟨g, 0, none⟩) ss.length d) ss.length (ptrl bs) ∧ g < w.heap.size ∧ N0 ≤ g ∧ ∀ i b, bs[i]? = some b → w.cell? ⟨g, i, none⟩ = some (ptr b) := by
  obtain ⟨p, d, e2, o2⟩ := h.c2
  rw [h.len] at e2 o2
  obtain ⟨g, cap, hv, hg, hl⟩ := o2.form hn
  simp only [Value.slice.injEq, true_and] at hv
  obtain ⟨rfl, rfl⟩ := hv
  refine ⟨g, d, e2, o2, hl, hg, fun i b hb => ?_⟩
  have hi : i < bs.length := (List.getElem?_eq_some_iff.mp hb).1
  exact (o2.cellAt i (by rw [h.len] at hi; omega)).trans (ptrl_at hb)
/-- Where a slab's objects turn. -/
theorem DC.turn (h : DC N0 w c z ly sz m bs ss) {i b : Nat} {s : Sl} (hb : bs[i]? = some b) (hs : ss[i]? = some s) (x : Nat) (hx : x < 2 ^ m) (hk : Kept b b w w') (hS : SLm w' b { s with bm := x }) : DC N0 w' c z ly sz m bs (ss.set i { s with bm := x }) := by
  have ht := (h.sl i b s hb hs).tg
  have hsm : Same [248, 288] w w' := same_tag hk ht (by decide)
  obtain ⟨p, d, e2, o2⟩ := h.c2
  have hc := fun j => cell_same hsm (by simp) h.tg j
  refine ⟨(hc 0).trans h.c0, (hc 1).trans h.c1, ⟨p, d, (hc 2).trans e2, own_same o2 hsm (by simp)⟩, tag_same hsm (by simp) h.tg, h.ge, h.bg, by rw [List.length_set]; exact h.len, h.nd, fun j b' s' h1 h2 => ?_, fun s' hs' => ?_, sorted_set h.so hs x, fun o => (World.frozen?_of_block (w := w) (a := ⟨c, o, none⟩) (hsm c 248 (by simp) h.tg)).trans (h.cf o), h.mm, h.ym.set ((hc 3).trans h.ym.c3) (fun j hj => hk.block _ (h.ym.ltk hj) (h.ym.nek hj ht) (h.ym.nek hj ht))⟩
  · by_cases e : j = i
    · subst e
      have hj : j < ss.length := (List.getElem?_eq_some_iff.mp hs).1
      rw [List.getElem?_set_self hj] at h2
      rw [hb] at h1
      cases h1; cases h2
      exact hS
    · rw [List.getElem?_set_ne (Ne.symm e)] at h2
      have h3 := h.sl j b' s' h1 h2
      have hne : b' ≠ b := fun e2 => by
        subst e2
        obtain ⟨hj, hj'⟩ := List.getElem?_eq_some_iff.mp h1
        obtain ⟨hi, hi'⟩ := List.getElem?_eq_some_iff.mp hb
        have hpw := List.pairwise_iff_getElem.mp h.nd
        rcases Nat.lt_trichotomy j i with q | q | q
        · exact hpw j i hj hi q (hj'.trans hi'.symm)
        · exact e q
        · exact hpw i j hi hj q (hi'.trans hj'.symm)
      exact h3.same (hk.block b' h3.tg.lt hne hne)
  · rcases List.mem_or_eq_of_mem_set hs' with h1 | rfl
    · exact h.ok s' h1
    · have := h.ok s (List.mem_of_getElem? hs)
      exact ⟨this.1, this.2.1, hx, this.2.2.2⟩
end
end Sb
end Go.Proofs.YtcbmfakjfoggaaaGreatDoor
namespace Go.Proofs.YtcbmfakjfoggaaaGreatDoor
open Go.RowKit Go.Lib
namespace Sb
theorem ovl_apart (w : World) (g vb k lb cb _n _c m vc : Nat) (hvb : vb ≠ g) (tA tB : TypeId) (kA kB : Nat) (hsa : w.shape? vb = some (tA, kA)) (hsb : w.shape? g = some (tB, kB)) (hkB : kB ≠ 0) (hfa : w.frozen? ⟨vb, 0, none⟩ = false) (hfe : w.frozen? ⟨vb, kA, none⟩ = false) :
    (callFunc 260 #[.slice (some ⟨vb, 0, none⟩) m vc, .slice (some ⟨g, k, none⟩) lb cb]).run Tryz.prog w = .ok (.value (.bool false)) w := by
  rw [run_callFunc_extern Tryz.func260 (by kernel_rfl) (by kernel_rfl) (by kernel_rfl) (e := Extern.SlicesOverlaps.overlaps #[246, 246] #[4]) (by kernel_rfl),
    Lib.run_overlaps_apart w 246 4 288 Tryz.underlying246 1 (by intro w; exact Tryz.sizeOf288 w) ⟨vb, 0, none⟩ ⟨g, k, none⟩ m vc lb cb hvb tA tB kA kB hsa hsb hkB hfa hfe]
  rfl
set_option maxHeartbeats 4000000 in
set_option maxRecDepth 100000 in
theorem insert_shift (g n c k vb : Nat) (cs : List Value) (x : Value) (w : World) (hk : k < n) (hroom : n + 1 ≤ c) (hc63 : c ≤ 9223372036854775807) (hvb : vb ≠ g) (hcl : cs.length = n)
    (hcs : ∀ j v, cs[j]? = some v → w.cell? ⟨g, j, none⟩ = some v) (hsp : ∀ j, j < n + 1 → (w.cell? ⟨g, j, none⟩).isSome = true) (hfz : ∀ j, w.frozen? ⟨g, j, none⟩ = false)
    (hv : w.cell? ⟨vb, 0, none⟩ = some x) (h1c : ∀ v ∈ cs, v.oneCell' = true) (h1v : x.oneCell' = true)
    (tA tB : TypeId) (kA kB : Nat) (hsa : w.shape? vb = some (tA, kA)) (hsb : w.shape? g = some (tB, kB)) (hkB : kB ≠ 0) (hfa : w.frozen? ⟨vb, 0, none⟩ = false) (hfe : w.frozen? ⟨vb, kA, none⟩ = false) :
    Calls Tryz.prog 234 #[.slice (some ⟨g, 0, none⟩) n c, .int .i64 k, .slice (some ⟨vb, 0, none⟩) 1 1] w fun e w' =>
      e = .returned (.slice (some ⟨g, 0, none⟩) (n + 1) c) ∧ w' = (w.drew.setCells g (k + 1) (cs.drop k)).setCells g k [x] := by
  have hsz : (Tryz.prog.info? 288).map (·.size) = some 1 := by kernel_rfl
  have hov : ∀ lb cb, (callFunc 260 #[.slice (some ⟨vb, 0, none⟩) 1 1, .slice (some ⟨g, k + 1, none⟩) lb cb]).run Tryz.prog w = .ok (.value (.bool false)) w := fun lb cb => ovl_apart w g vb (k + 1) lb cb n c 1 1 hvb tA tB kA kB hsa hsb hkB hfa hfe
  have hdl : (cs.drop k).length = n - k := by rw [List.length_drop, hcl]
  have hw1 : IntKind.i64.wrap ((k : Int) + 1) = (k : Int) + 1 := by rw [IntKind.wrap_i64]; omega
  have hb1 : (0 : Int) ≤ (k : Int) + 1 := by omega
  have hin : k ≤ n := by omega
  have htn : ((k : Int) + 1).toNat = k + 1 := by omega
  have hb2 : ¬ (c = k + 1) := by omega
  have hb3 : (k : Int) ≤ (n : Int) + 1 := by omega
  have hb4 : ¬ (c = k) := by omega
  have hcp1 : ∀ ty dc sc, (Builtin.copy_ #[246, 246] ty #[.slice (some ⟨g, k + 1, none⟩) (n - k) dc, .slice (some ⟨g, k, none⟩) (n + 1 - k) sc]).run Tryz.prog w.drew = .ok (goInt (cs.drop k).length) (w.drew.setCells g (k + 1) (cs.drop k)) := fun ty dc sc =>
    run_copy_cells w.drew _ _ ty 288 g (k + 1) (n - k) dc ⟨g, k, none⟩ (n + 1 - k) sc (cs.drop k) Tryz.underlying246 hsz (by rw [hdl]; simp only [Nat.min_def]; split <;> omega)
      (fun j v hj => by rw [Addr.add_lit]; exact hcs (k + j) v (by rwa [List.getElem?_drop] at hj))
      (fun j hj => hsp _ (by rw [hdl] at hj; omega)) (fun j hj => hfz _) (fun v hv => h1c v (List.mem_of_mem_drop hv))
  obtain ⟨W1, hW1⟩ : ∃ W1, W1 = w.drew.setCells g (k + 1) (cs.drop k) := ⟨_, rfl⟩
  have hsp1 : ∀ j, j < n + 1 → (W1.cell? ⟨g, j, none⟩).isSome = true := fun j hj => by
    rw [hW1]
    exact isSome_setCells g _ _ w.drew (fun t ht => hsp (k + 1 + t) (by rw [hdl] at ht; omega)) _ (hsp j hj)
  have hcp2 : ∀ (W : World), (∀ x, W.cell? x = W1.cell? x) → (∀ x, W.frozen? x = W1.frozen? x) → ∀ ty dc, (Builtin.copy_ #[246, 246] ty #[.slice (some ⟨g, k, none⟩) (n + 1 - k) dc, .slice (some ⟨vb, 0, none⟩) 1 1]).run Tryz.prog W = .ok (goInt 1) (W.setCells g k [x]) := fun W hWc hWf ty dc =>
    run_copy_cells W _ _ ty 288 g k (n + 1 - k) dc ⟨vb, 0, none⟩ 1 1 [x] Tryz.underlying246 hsz (by simp only [List.length_singleton, Nat.min_def]; split <;> omega)
      (fun j v hj => by
        obtain rfl : j = 0 := by rcases j with _ | j <;> simp at hj ⊢
        rw [Addr.add_lit, hWc, hW1, World.cell?_setCells_out g _ _ _ _ (fun h _ => absurd h hvb)]
        simp at hj; subst hj
        exact hv)
      (fun j hj => by rw [hWc]; exact hsp1 _ (by simp at hj; omega)) (fun j hj => by rw [hWf, hW1, World.frozen?_setCells]; exact hfz _) (fun v hv => by simp at hv; subst hv; exact h1v)
  rw [← hW1] at hcp1
  have mixed : Tryz.prog.follows .mixedOrders = true := by kernel_rfl
  go_enter Tryz.func234, Tryz.ntmps234
  go_wp2_with (simp only [hov])
  go_region_law_o (refine step_copy_runI rfl _ _ 246 246 rfl _ _ (by simp [Act.eval, Act.put]) (by simp [Act.eval, Act.put]) (hcp1 _ _ _) ?_)
  go_wp2_with (at_builtin; refine wpList_copy_runI _ rfl _ _ 246 246 rfl _ _ rfl rfl (hcp2 _ (fun _ => rfl) (fun _ => rfl) _ _) ?_)
  go_ret
  first | exact ⟨rfl, rfl⟩ | exact ⟨rfl, by rw [hW1]⟩
end Sb
end Go.Proofs.YtcbmfakjfoggaaaGreatDoor
namespace Go.Proofs.YtcbmfakjfoggaaaGreatDoor
open Go.RowKit Go.Lib
namespace Sb
theorem info94' : (Tryz.prog.info? 288).map (fun i => (i.zero, i.size, i.bytes)) = some (some (.pointer none), 1, 8) := by kernel_rfl
theorem info94 : ∃ i0, Tryz.prog.info? 288 = some i0 ∧ i0.zero = some (.pointer none) ∧ i0.size = 1 ∧ i0.bytes = 8 := by
  have h := info94'
  cases hi : Tryz.prog.info? 288 with
  | none => rw [hi] at h; cases h
  | some i0 =>
    rw [hi] at h
    simp only [Option.map_some, Option.some.injEq, Prod.mk.injEq] at h
    exact ⟨i0, rfl, h.1, h.2.1, h.2.2⟩
set_option maxHeartbeats 4000000 in
set_option maxRecDepth 100000 in
theorem insert_grow (g n c k vb : Nat) (cs : List Value) (x : Value) (w : World) (hk : k < n) (hnc : n ≤ c) (hroom : c < n + 1) (hbig : n ≤ 100000) (hcl : cs.length = n)
    (hcs : ∀ j v, cs[j]? = some v → w.cell? ⟨g, j, none⟩ = some v) (hv : w.cell? ⟨vb, 0, none⟩ = some x) (h1c : ∀ v ∈ cs, v.oneCell' = true) (h1v : x.oneCell' = true) :
    Calls Tryz.prog 234 #[.slice (some ⟨g, 0, none⟩) n c, .int .i64 k, .slice (some ⟨vb, 0, none⟩) 1 1] w fun e w' =>
      e = .returned (.slice (some ⟨w.heap.size, 0, none⟩) (n + 1) (grownCap w (n + 1) c 288)) ∧
      w' = (((w.alloc (.cells ((cs.take k).toArray ++ Builtin.zeroCells (Value.pointer none).cells (n + 1 - k) ++ Builtin.zeroCells (Value.pointer none).cells (grownCap w (n + 1) c 288 - (n + 1))) 288)).drew.setCells w.heap.size k [x]).drew).setCells w.heap.size (k + 1) (cs.drop k) := by
  have mixed : Tryz.prog.follows .mixedOrders = true := by kernel_rfl
  obtain ⟨i0, hi0, hz0, hzs, hzb⟩ := info94
  have hz2 : ¬ ((k : Int) = (n : Int)) := by omega
  have hz3 : (c : Int) < (n : Int) + 1 := by omega
  have hsz : (Tryz.prog.info? 288).map (·.size) = some 1 := by rw [hi0]; simp [hzs]
  have hbw : g < w.heap.size := block_lt_of_cell (hcs 0 _ (List.getElem?_eq_getElem (by omega)))
  have hvw : vb < w.heap.size := block_lt_of_cell hv
  have hkk : (n : Int) + 1 - (k : Int) = ((n + 1 - k : Nat) : Int) := by omega
  have hik : k + (n + 1 - k) = n + 1 := by omega
  have hold : (Builtin.firstCells i0.size k (.slice (some ⟨g, 0, none⟩) k c)).run Tryz.prog w.drew = .ok (cs.take k).toArray w.drew := by
    rw [hzs]
    exact run_firstCells_some w.drew 1 k ⟨g, 0, none⟩ k c (cs.take k) (by rw [List.length_take]; omega) (fun j v hj => by
      rw [Addr.add_lit]
      rw [List.getElem?_take] at hj
      split at hj
      · simpa using hcs j v hj
      · cases hj)
  have hrz : ∀ ty, (Builtin.append_ #[246, 3] ty #[.slice (some ⟨g, 0, none⟩) k c, .int .i64 ((n : Int) + 1 - (k : Int))]).run Tryz.prog w =
      .ok (.slice (some ⟨w.heap.size, 0, none⟩) (n + 1) (grownCap w (n + 1) c 288)) (w.drew.alloc (.cells ((cs.take k).toArray ++ Builtin.zeroCells (Value.pointer none).cells (n + 1 - k) ++ Builtin.zeroCells (Value.pointer none).cells (grownCap w (n + 1) c 288 - (n + 1))) 288)) := fun ty => by
    have h := Lib.run_append_grow_zeros w 246 3 ty 288 i0 _ .i64 .i64 Tryz.underlying246 Tryz.underlying3 hi0 hz0 (some ⟨g, 0, none⟩) k c (cs.take k) hold (n + 1 - k) (by omega) (by omega) (by omega) (by omega) (by rw [hzb]; omega) (by rw [hzb, hik]; exact growslice_fits hroom (by omega))
    rw [hik] at h
    rw [hkk]
    exact h
  obtain ⟨G, hG⟩ : ∃ G, G = grownCap w (n + 1) c 288 := ⟨_, rfl⟩
  obtain ⟨ROW, hROW⟩ : ∃ ROW : Array Value, ROW = (cs.take k).toArray ++ Builtin.zeroCells (Value.pointer none).cells (n + 1 - k) ++ Builtin.zeroCells (Value.pointer none).cells (G - (n + 1)) := ⟨_, rfl⟩
  rw [← hG] at hrz ⊢
  rw [← hROW] at hrz ⊢
  have hRl : n + 1 ≤ ROW.size := by
    rw [hROW]
    simp [Builtin.zeroCells, Value.cells]
    omega
  obtain ⟨W1, hW1⟩ : ∃ W1, W1 = w.drew.alloc (.cells ROW 288) := ⟨_, rfl⟩
  rw [← hW1] at hrz
  have hN : ∀ j, j < n + 1 → (W1.cell? ⟨w.heap.size, j, none⟩).isSome = true := fun j hj => by
    rw [hW1, World.cell?_alloc_at (w := w.drew) ROW _ w.heap.size j rfl, Array.getElem?_eq_getElem (by omega)]; rfl
  have hNf : ∀ j, W1.frozen? ⟨w.heap.size, j, none⟩ = false := fun j => by rw [hW1]; exact World.frozen?_alloc_at (w := w.drew) ROW _ w.heap.size j rfl
  have hOb : ∀ j v, w.cell? ⟨g, j, none⟩ = some v → W1.cell? ⟨g, j, none⟩ = some v := fun j v h => by rw [hW1, World.cell?_alloc_past (w := w.drew) _ g j hbw]; exact h
  have hOv : ∀ j v, w.cell? ⟨vb, j, none⟩ = some v → W1.cell? ⟨vb, j, none⟩ = some v := fun j v h => by rw [hW1, World.cell?_alloc_past (w := w.drew) _ vb j hvw]; exact h
  have hcpA : ∀ (W : World), (∀ x, W.cell? x = W1.cell? x) → (∀ x, W.frozen? x = W1.frozen? x) → ∀ ty dc, (Builtin.copy_ #[246, 246] ty #[.slice (some ⟨w.heap.size, k, none⟩) (n + 1 - k) dc, .slice (some ⟨vb, 0, none⟩) 1 1]).run Tryz.prog W = .ok (goInt 1) (W.setCells w.heap.size k [x]) := fun W hWc hWf ty dc =>
    run_copy_cells W _ _ ty 288 w.heap.size k (n + 1 - k) dc ⟨vb, 0, none⟩ 1 1 [x] Tryz.underlying246 hsz (by simp only [List.length_singleton, Nat.min_def]; split <;> omega)
      (fun j v hj => by
        obtain rfl : j = 0 := by rcases j with _ | j <;> simp at hj ⊢
        rw [Addr.add_lit, hWc]
        simp at hj; subst hj
        exact hOv _ _ hv)
      (fun j hj => by rw [hWc]; exact hN _ (by simp at hj; omega)) (fun j hj => by rw [hWf]; exact hNf _) (fun v hv => by simp at hv; subst hv; exact h1v)
  have hGn : n + 1 ≤ G := by rw [hG]; exact grownCap_ge w _ _ _
  have hG63 : G ≤ 9223372036854775807 := by
    have := grownCap_le_maxLen w (n + 1) c 288 (by unfold maxLen; omega)
    rw [← hG] at this
    unfold maxLen at this
    omega
  have hGi : ¬ (G = k) := by omega
  have hGim : ¬ (G = k + 1) := by omega
  have hci : ¬ (c = k) := by omega
  have hbN : g ≠ w.heap.size := by omega
  have hdl : (cs.drop k).length = n - k := by rw [List.length_drop, hcl]
  have hcpB : ∀ (W : World), (∀ y, W.cell? y = (W1.setCells w.heap.size k [x]).cell? y) → (∀ y, W.frozen? y = (W1.setCells w.heap.size k [x]).frozen? y) → ∀ ty dc sc, (Builtin.copy_ #[246, 246] ty #[.slice (some ⟨w.heap.size, k + 1, none⟩) (n - k) dc, .slice (some ⟨g, k, none⟩) (n - k) sc]).run Tryz.prog W = .ok (goInt (cs.drop k).length) (W.setCells w.heap.size (k + 1) (cs.drop k)) := fun W hWc hWf ty dc sc =>
    run_copy_cells W _ _ ty 288 w.heap.size (k + 1) (n - k) dc ⟨g, k, none⟩ (n - k) sc (cs.drop k) Tryz.underlying246 hsz (by rw [hdl]; simp only [Nat.min_def]; split <;> omega)
      (fun j v hj => by
        rw [Addr.add_lit, hWc, World.cell?_setCells_out _ _ _ _ _ (fun h _ => absurd h hbN)]
        exact hOb _ v (hcs (k + j) v (by rwa [List.getElem?_drop] at hj)))
      (fun j hj => by rw [hWc]; rw [hdl] at hj; exact isSome_setCells _ _ _ _ (fun t ht => hN _ (by simp at ht; omega)) _ (hN _ (by omega)))
      (fun j hj => by rw [hWf, World.frozen?_setCells]; exact hNf _) (fun v hv => h1c v (List.mem_of_mem_drop hv))
  subst hW1
  have hE1 : ∀ x, ((w.alloc (.cells ROW 288)).drew).cell? x = (w.drew.alloc (.cells ROW 288)).cell? x := fun x => rfl
  have hE2 : ∀ x, ((w.alloc (.cells ROW 288)).drew).frozen? x = (w.drew.alloc (.cells ROW 288)).frozen? x := fun x => rfl
  have hF1 : ∀ y, (((w.alloc (.cells ROW 288)).drew.setCells w.heap.size k [x]).drew).cell? y = ((w.drew.alloc (.cells ROW 288)).setCells w.heap.size k [x]).cell? y := fun y => rfl
  have hF2 : ∀ y, (((w.alloc (.cells ROW 288)).drew.setCells w.heap.size k [x]).drew).frozen? y = ((w.drew.alloc (.cells ROW 288)).setCells w.heap.size k [x]).frozen? y := fun y => rfl
  have hw1 : IntKind.i64.wrap ((k : Int) + 1) = (k : Int) + 1 := by rw [IntKind.wrap_i64]; omega
  have hb1 : (0 : Int) ≤ (k : Int) + 1 := by omega
  have hin : k ≤ n := by omega
  have htn : ((k : Int) + 1).toNat = k + 1 := by omega
  have hb3 : (k : Int) ≤ (n : Int) := by omega
  clear hkk hik hold hROW hG hRl
  go_enter Tryz.func234, Tryz.ntmps234
  go_wp2_with (first
    | (at_builtin; refine Lib.wpList_append_run _ rfl _ _ _ _ rfl _ _ rfl rfl _ _ (hrz _) ?_)
    | (at_builtin; refine wpList_copy_runI _ rfl _ _ 246 246 rfl _ _ rfl rfl (hcpA _ hE1 hE2 _ _) ?_))
  go_region_law_o (refine step_copy_runI rfl _ _ 246 246 rfl (.slice (some ⟨w.heap.size, k + 1, none⟩) (n - k) (G - (k + 1))) (.slice (some ⟨g, k, none⟩) (n - k) (c - k)) (by simp [Act.eval, Act.put]) (by simp [Act.eval, Act.put]) (hcpB _ hF1 hF2 3 (G - (k + 1)) (c - k)) ?_)
  go_wp2
  go_ret
  exact ⟨rfl, rfl⟩
end Sb
end Go.Proofs.YtcbmfakjfoggaaaGreatDoor
