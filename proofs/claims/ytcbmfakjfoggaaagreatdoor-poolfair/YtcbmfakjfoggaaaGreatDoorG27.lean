/- A slab less; Shrink's closure · Package slab's New, each, Count, Size · Package slab's Count · Package slab's Taken: its closure · A tray's Lay, by contract · What lifting and laying make of the trays; the zone and the cache beside · The library's Delete of one pointer to a tray, over a row that a depot owns. -/
import Derived.Test.YtcbmfakjfoggaaaGreatDoorG26
import Derived.Test.YtcbmfakjfoggaaaGreatDoorG22
import Derived.Test.YtcbmfakjfoggaaaGreatDoorG10
import Derived.Test.YtcbmfakjfoggaaaGreatDoorG15
import Derived.Test.YtcbmfakjfoggaaaGreatDoorG14
import Derived.Test.YtcbmfakjfoggaaaGreatDoorG08
import Derived.Test.YtcbmfakjfoggaaaGreatDoorG04
import Derived.Test.YtcbmfakjfoggaaaGreatDoorG06
import Derived.Deep.DrawnRows
import Derived.BigQuiet
import Derived.Deep.RegionHeld3
import Derived.Test.YtcbmfakjfoggaaaGreatDoorG17
import Derived.Shelf.RegionOpenPlain
import Derived.Deep.RegionLaw
import Derived.Lib.SliceRun
namespace Go.Proofs.YtcbmfakjfoggaaaGreatDoor
open Go.RowKit Go.Maps
namespace Sb
open Fr Bd Zn Dz
theorem Ow.del {k : Nat} {nd : Nat → Nd} {ss : List Sl} (h : Ow k nd ss) (hso : Sorted ss) {j : Nat} {s : Sl} (hs : ss[j]? = some s) : Ow k (up nd s.nd (gaveD (s.at_, 0) (nd s.nd))) (ss.eraseIdx j) := fun t ht => by
  obtain ⟨i, hi⟩ := List.mem_iff_getElem?.mp ht
  rw [List.getElem?_eraseIdx] at hi
  have hT := (h s (List.mem_of_getElem? hs)).2
  have key : ∃ i', ss[i']? = some t ∧ i' ≠ j := by
    split at hi
    · exact ⟨i, hi, by omega⟩
    · exact ⟨i + 1, hi, by omega⟩
  obtain ⟨i', hi', hne⟩ := key
  have hm := h t (List.mem_of_getElem? hi')
  refine ⟨hm.1, ?_⟩
  by_cases e : t.nd = s.nd
  · rw [e, up_at, gaveD, if_pos hT]
    have hm2 := hm.2
    rw [e] at hm2
    exact mem_del.mpr ⟨hm2, fun e2 => hne (sorted_uniq hso hi' hs e e2)⟩
  · rw [up_ne _ _ e]; exact hm.2
section
variable {N0 : Nat} {w w5 : World} {c z : Nat} {ly : Ly} {sz : Int} {m : Nat} {bs : List Nat} {ss : List Sl} {mn lw hi : Int} {k : Nat} {nb fm tm : Nat → Nat} {nd : Nat → Nd} {fr : Nat → List Nat}
/-- One slab less. -/
theorem PS.del {j : Nat} (hd : DZ w z mn lw hi k nb fm tm nd fr) (hc : DC N0 w c z ly sz m bs ss) (how : Ow k nd (ss.eraseIdx j)) (hmf : ∀ i, i < k → N0 ≤ fm i ∧ N0 ≤ tm i) (hk4 : k ≤ 20) (hml : ∀ i, i < k → ∀ j, Lk ly j → j ≠ fm i ∧ j ≠ tm i) (hj : j < ss.length) {p : Option Addr} {d : Nat}
    (e2 : w.cell? ⟨c, 2, none⟩ = some (.slice p bs.length d)) (o2 : w.ownsRow N0 288 1 (.slice p bs.length d) bs.length (ptrl bs)) (g5 : w.grownBy w5 (Value.slice p bs.length d).ownBlock) (o5 : w5.ownsRow N0 288 1 (.slice p (bs.length - 1) d) (bs.length - 1) ((ptrl bs).eraseIdx j)) :
    PS N0 (w5.setCell ⟨c, 2, none⟩ (.slice p (bs.length - 1) d)) c z ly sz m (bs.eraseIdx j) (ss.eraseIdx j) mn lw hi k nb fm tm nd fr ∧ Chg K4 N0 w (w5.setCell ⟨c, 2, none⟩ (.slice p (bs.length - 1) d)) := by
  have hnb : ∀ b t, Tag w b t → t ≠ 288 → some b ≠ (Value.slice p bs.length d).ownBlock := fun b t ht hne e => by
    rcases o2.2 with ⟨e2, _⟩ | ⟨g, cap, cur, e2, hg, hh, _⟩
    · rw [e2] at e; cases e
    · rw [e2] at e
      simp only [Value.ownBlock, Option.some.injEq] at e
      subst e
      exact ht.ne ⟨cur, _, hh⟩ hne rfl
  have hcb : w5.heap[c]? = _ := g5.block c hc.tg.lt (hnb c 248 hc.tg (by decide))
  have hcell : ∀ i v, w.cell? ⟨c, i, none⟩ = some v → w5.cell? ⟨c, i, none⟩ = some v := fun i v hv => (World.cell?_of_block (a := ⟨c, i, none⟩) hcb).trans hv
  have htag5 := hc.tg.blk hcb
  have hC : Chg [some 248, some 288] N0 w (w5.setCell ⟨c, 2, none⟩ (.slice p (bs.length - 1) d)) := ((Chg.grown g5 o2).mono (by simp) (Nat.le_refl _)).trans ((Chg.set htag5 hc.ge 2 _).mono (by simp) (Nat.le_refl _))
  have hbl : j < bs.length := by rw [hc.len]; exact hj
  have hl : (bs.eraseIdx j).length = bs.length - 1 := by rw [List.length_eraseIdx, if_pos hbl]
  have hl2 : (ss.eraseIdx j).length = ss.length - 1 := by rw [List.length_eraseIdx, if_pos hj]
  have hpe : ptrl (bs.eraseIdx j) = (ptrl bs).eraseIdx j := by unfold ptrl; rw [List.eraseIdx_eq_take_drop_succ, List.eraseIdx_eq_take_drop_succ]; simp [List.map_take, List.map_drop]
  have o6 : (w5.setCell ⟨c, 2, none⟩ (.slice p (bs.length - 1) d)).ownsRow N0 288 1 (.slice p (bs.length - 1) d) (bs.length - 1) ((ptrl bs).eraseIdx j) :=
    own_same o5 ((Chg.set htag5 hc.ge 2 _).toSame (us := [288]) (by simp)) (by simp)
  refine ⟨⟨dz_chg hd hC (by decide) (by decide), ⟨(cso (by simp)).trans (hcell 0 _ hc.c0), (cso (by simp)).trans (hcell 1 _ hc.c1), ⟨p, d, by rw [hl]; exact css (hcell 2 _ e2), by rw [hl, hpe]; exact o6⟩, htag5.set _ _, hc.ge, fun b hb => hc.bg b (List.mem_of_mem_eraseIdx hb), by rw [hl, hl2, hc.len], hc.nd.sublist (List.eraseIdx_sublist ..), fun i b s e1 e3 => ?_, fun s hs => hc.ok s (List.mem_of_mem_eraseIdx hs), sorted_erase hc.so j, fun o => ?_, hc.mm, hc.ym.set ((cso (by simp)).trans (hcell 3 _ hc.ym.c3)) (hC.ly (by simp) hc.ym)⟩, how, hmf, hk4, hml⟩, hC.mono (by decide) (Nat.le_refl _)⟩
  · rw [List.getElem?_eraseIdx] at e1 e3
    have hs : SLm w b s := by
      split at e1
      · rename_i hlt
        rw [if_pos hlt] at e3
        exact hc.sl i b s e1 e3
      · rename_i hlt
        rw [if_neg hlt] at e3
        exact hc.sl (i + 1) b s e1 e3
    exact hs.same (hC.same hs.tg (by decide))
  · rw [World.frozen?_setCell]
    exact (World.frozen?_of_block (a := ⟨c, o, none⟩) hcb).trans (hc.cf o)
end
end Sb
end Go.Proofs.YtcbmfakjfoggaaaGreatDoor
namespace Go.Proofs.YtcbmfakjfoggaaaGreatDoor
open Go.RowKit Go.Maps
namespace Sb
open Fr Bd Zn Dz
theorem snew_ok (N0 z : Nat) (sz : Int) (w : World) (h1 : 1 ≤ sz) (h2 : sz ≤ 64) (hN : N0 ≤ w.heap.size) :
    Calls Tryz.prog 66 #[ptr z, .int .i64 sz] w fun ev w' => ∃ c m, ∃ ly : Nat × Obj, ev = .returned (.tuple #[ptr c, .nilIface]) ∧ DC N0 w' c z (ly.1, ly.2, fun _ => none) sz m [] [] ∧ w.heap.size ≤ ly.1 ∧ ly.2 = .map #[] 0 ∧ Below w.heap.size w w' := by
  have d1 : decide (sz < 1) = false := by simp; omega
  have d2 : decide (sz > 64) = false := by simp; omega
  have hmm := @run_makeMap Tryz.prog
  unfold ptr at *
  go_enter Tryz.func66, Tryz.ntmps66
  go_wp2
  go_ret2
  have e1 : (w.alloc (.map #[] 0)).heap.size = w.heap.size + 1 := by simp
  have hq := World.cell?_alloc_new (w.alloc (.map #[] 0)) #[.pointer (some ⟨z, 0, none⟩), .int .i64 sz, .slice none 0 0, .map (some w.heap.size)] 248
  have ht := tag_new (w.alloc (.map #[] 0)) #[.pointer (some ⟨z, 0, none⟩), .int .i64 sz, .slice none 0 0, .map (some w.heap.size)] 248
  have hf := fun o => World.frozen?_alloc_at (w := w.alloc (.map #[] 0)) #[.pointer (some ⟨z, 0, none⟩), .int .i64 sz, .slice none 0 0, .map (some w.heap.size)] 248 (w.heap.size + 1) o e1.symm
  rw [e1] at hq ht
  have h5 : (0 : Int) ≤ 64 / sz := Int.ediv_nonneg (by omega) (by omega)
  refine ⟨w.heap.size + 1, (64 / sz).toNat, (w.heap.size, .map #[] 0), rfl, ⟨hq 0, hq 1, ⟨none, 0, hq 2, World.ownsRow_nil _ _ _ _⟩, ht, by omega, by simp, rfl, List.nodup_nil, fun i b s h => by simp at h, by simp, List.Pairwise.nil, hf, ⟨h1, h2, by omega⟩, ⟨hq 3, alloc_at (MapKept.heap_alloc w _).1, rfl, hN, fun j o e => by cases e⟩⟩, Nat.le_refl _, rfl, ballo (ballo (Below.refl _ _) _) _⟩
end Sb
end Go.Proofs.YtcbmfakjfoggaaaGreatDoor
namespace Go.Proofs.YtcbmfakjfoggaaaGreatDoor
open Go.RowKit Go.Maps
namespace Sb
open Fr Bd Zn Dz
/-- A box of a number. -/
structure Nb (w : World) (r : Nat) (v : Int) : Prop where
  c : w.cell? ⟨r, 0, none⟩ = some (.int .i64 v)
  f : w.frozen? ⟨r, 0, none⟩ = false
theorem Nb.set {w : World} {r : Nat} {v : Int} (h : Nb w r v) (u : Int) : Nb (w.setCell ⟨r, 0, none⟩ (.int .i64 u)) r u := ⟨css h.c, by rw [World.frozen?_setCell]; exact h.f⟩
theorem Nb.off {w : World} {r q : Nat} {v : Int} (h : Nb w r v) (hne : q ≠ r) (u : Value) : Nb (w.setCell ⟨q, 0, none⟩ u) r v := ⟨(cso (by simp <;> exact hne)).trans h.c, by rw [World.frozen?_setCell]; exact h.f⟩
end Sb
end Go.Proofs.YtcbmfakjfoggaaaGreatDoor
namespace Go.Proofs.YtcbmfakjfoggaaaGreatDoor
open Go.RowKit Go.Maps
namespace Sb
open Fr Bd Zn Dz
theorem info42o : (Tryz.prog.info? 34).map (fun i => (i.zero, i.size, i.bytes)) = some (some (.agg #[.int .i64 0, .int .i64 0]), 2, 16) := by kernel_rfl
theorem own_nb {w : World} {base e size n : Nat} {v : Value} {xs : List Value} (h : w.ownsRow base e size v n xs) {b t : Nat} (ht : Tag w b t) (hne : t ≠ e) : some b ≠ v.ownBlock := fun e' => by
  rcases h.2 with ⟨e2, _⟩ | ⟨g, cap, cur, e2, hg, hh, _⟩
  · rw [e2] at e'; cases e'
  · rw [e2] at e'
    simp only [Value.ownBlock, Option.some.injEq] at e'
    subst e'
    exact ht.ne ⟨cur, _, hh⟩ hne rfl
end Sb
end Go.Proofs.YtcbmfakjfoggaaaGreatDoor
namespace Go.Proofs.YtcbmfakjfoggaaaGreatDoor
open Go.RowKit Go.Maps
namespace Mg
open Fr Bd Zn Dz Sb
theorem OutR.b {m : Nat} {sz : Int} {ss : List Sl} {f : Int → Int → Option Nat} {oN oA : Int} {w w' : World} {ev : Ending} (h : OutR m sz ss f oN oA w ev w') : ∃ d : Bool, ev = .returned (.bool d) ∧ Below w.heap.size w w' ∧ Hid ((d = true → Tkn m sz ss oN oA ∧ f oN oA = none) ∧ (d = false → ¬ (Tkn m sz ss oN oA ∧ f oN oA = none))) := by
  obtain ⟨hb, ⟨rfl, h1, h2⟩ | ⟨rfl, h1⟩⟩ := h
  · exact ⟨true, rfl, hb, ⟨fun _ => ⟨h1, h2⟩, fun h => by cases h⟩⟩
  · exact ⟨false, rfl, hb, ⟨fun h => (by cases h), fun _ => h1⟩⟩
end Mg
end Go.Proofs.YtcbmfakjfoggaaaGreatDoor
namespace Go.Proofs.YtcbmfakjfoggaaaGreatDoor
open Go.RowKit Go.Maps
namespace Mg
open Fr Bd Zn Dz Sb
section
variable {N0 : Nat} {U : Nat → Prop} {w w' : World} {c d g mb q : Nat} {f : Int → Int → Option Nat} {L : List Nat} {rb : Nat → Nat} {ct : Nat → List Bl}
theorem TS.apart (h : TS N0 U w c mb q f L rb ct) {t u : Nat} (ht : t ∈ L) (hu : u ∈ L) (hne : u ≠ t) : u ≠ rb t ∧ rb u ≠ t ∧ rb u ≠ rb t ∧ u ≠ mb ∧ rb u ≠ mb := by
  have h1 := h.tr t ht
  have h2 := h.tr u hu
  refine ⟨?_, ?_, h.rd u hu t ht hne, (h2.ne h.ml).1, (h2.ne h.ml).2⟩
  · rcases h1.row with e | e
    · rw [e]; exact hne
    · exact h2.tg.ne e.1 (by decide)
  · rcases h2.row with e | e
    · rw [e]; exact hne
    · exact e.1.ne h1.tg (by decide)
theorem TS.lifted (h : TS N0 U w c mb q f L rb ct) {t : Nat} (ht : t ∈ L) {xs : List Bl} {o : Bl} (hc : ct t = xs ++ [o]) (hT : TRy N0 w' c t (rb t) xs) (hM : Ml w' mb q (upF f o.1 o.2 none)) (hK : Kp (fun k => k = t ∨ k = rb t ∨ k = mb) w w') : TS N0 U w' c mb q (upF f o.1 o.2 none) L rb (upN ct t xs) := by
  have hcn := h.cn t ht
  rw [hc] at hcn
  have hno : o ∉ xs := fun hm => (List.nodup_append.1 hcn.1).2.2 o hm o (by simp) rfl
  have hfo : f o.1 o.2 = some t := (h.lf o.1 o.2 t).2 ⟨ht, by rw [hc]; simp⟩
  refine ⟨h.nd, fun u hu => ?_, h.rd, h.ru, hM, h.mg, fun a b u => ?_, fun u hu => ?_⟩
  · by_cases e : u = t
    · subst e; rw [upN_at]; exact hT
    · rw [upN_ne e]
      obtain ⟨h1, h2, h3, h4, h5⟩ := h.apart ht hu e
      exact (h.tr u hu).same (hK.blk u (h.tr u hu).tg.lt (by rintro (h | h | h); exact e h; exact h1 h; exact h4 h)) (hK.blk _ (h.tr u hu).rlt (by rintro (h | h | h); exact h2 h; exact h3 h; exact h5 h))
  · by_cases e : a = o.1 ∧ b = o.2
    · obtain ⟨rfl, rfl⟩ := e
      rw [upF_at]
      refine ⟨fun h => (by cases h), fun ⟨h1, h2⟩ => ?_⟩
      by_cases e : u = t
      · subst e; rw [upN_at] at h2; exact absurd h2 hno
      · rw [upN_ne e] at h2
        have := (h.lf o.1 o.2 u).2 ⟨h1, h2⟩
        rw [hfo] at this
        exact absurd (Option.some.inj this).symm e
    · rw [upF_ne e, h.lf]
      by_cases e2 : u = t
      · subst e2
        rw [upN_at, hc]
        refine ⟨fun ⟨h1, h2⟩ => ⟨h1, ?_⟩, fun ⟨h1, h2⟩ => ⟨h1, by simp [h2]⟩⟩
        rcases List.mem_append.1 h2 with h3 | h3
        · exact h3
        · simp only [List.mem_singleton] at h3
          exact absurd ⟨congrArg Prod.fst h3, congrArg Prod.snd h3⟩ e
      · rw [upN_ne e2]
  · by_cases e : u = t
    · subst e
      rw [upN_at]
      exact ⟨(List.nodup_append.1 hcn.1).1, by have := hcn.2.1; simp at this; omega, fun x hx => hcn.2.2 x (by simp [hx])⟩
    · rw [upN_ne e]; exact h.cn u hu
theorem TS.laid (h : TS N0 U w c mb q f L rb ct) {t r' : Nat} (ht : t ∈ L) {o : Bl} (hT : TRy N0 w' c t r' (ct t ++ [o])) (hr : r' = rb t ∨ w.heap.size ≤ r') (hM : Ml w' mb (q + 1) (upF f o.1 o.2 (some t))) (hK : Kp (fun k => k = t ∨ k = rb t ∨ k = mb) w w') (hf : f o.1 o.2 = none) (hl : (ct t).length < 4) (hw : W2 o.1 o.2) (hU : ∀ k, U k → k < w.heap.size) : TS N0 U w' c mb (q + 1) (upF f o.1 o.2 (some t)) L (upN rb t r') (upN ct t (ct t ++ [o])) := by
  have hcn := h.cn t ht
  have hno : ∀ u ∈ L, o ∉ ct u := fun u hu hm => by
    have := (h.lf o.1 o.2 u).2 ⟨hu, hm⟩
    rw [hf] at this
    cases this
  refine ⟨h.nd, fun u hu => ?_, fun u hu v hv hne => ?_, fun u hu => ?_, hM, h.mg, fun a b u => ?_, fun u hu => ?_⟩
  · by_cases e : u = t
    · subst e; rw [upN_at, upN_at]; exact hT
    · rw [upN_ne e, upN_ne e]
      obtain ⟨h1, h2, h3, h4, h5⟩ := h.apart ht hu e
      exact (h.tr u hu).same (hK.blk u (h.tr u hu).tg.lt (by rintro (h | h | h); exact e h; exact h1 h; exact h4 h)) (hK.blk _ (h.tr u hu).rlt (by rintro (h | h | h); exact h2 h; exact h3 h; exact h5 h))
  · have key : ∀ x ∈ L, x ≠ t → rb x ≠ r' := fun x hx e => by
      rcases hr with h' | h'
      · rw [h']; exact h.rd x hx t ht e
      · have := (h.tr x hx).rlt; omega
    by_cases e : u = t
    · have e2 : v ≠ t := fun e2 => hne (e.trans e2.symm)
      rw [e, upN_at, upN_ne e2]
      exact (key v hv e2).symm
    · rw [upN_ne e]
      by_cases e2 : v = t
      · rw [e2, upN_at]; exact key u hu e
      · rw [upN_ne e2]; exact h.rd u hu v hv hne
  · by_cases e : u = t
    · rw [e, upN_at]
      rcases hr with h' | h'
      · rw [h']; exact h.ru t ht
      · intro hu'; have := hU _ hu'; omega
    · rw [upN_ne e]; exact h.ru u hu
  · by_cases e : a = o.1 ∧ b = o.2
    · obtain ⟨rfl, rfl⟩ := e
      rw [upF_at]
      refine ⟨fun h => ?_, fun ⟨h1, h2⟩ => ?_⟩
      · obtain rfl : t = u := Option.some.inj h
        exact ⟨ht, by rw [upN_at]; simp⟩
      · by_cases e : u = t
        · rw [e]
        · rw [upN_ne e] at h2
          exact absurd h2 (hno u h1)
    · rw [upF_ne e, h.lf]
      by_cases e2 : u = t
      · subst e2
        rw [upN_at]
        refine ⟨fun ⟨h1, h2⟩ => ⟨h1, by simp [h2]⟩, fun ⟨h1, h2⟩ => ⟨h1, ?_⟩⟩
        rcases List.mem_append.1 h2 with h3 | h3
        · exact h3
        · simp only [List.mem_singleton] at h3
          exact absurd ⟨congrArg Prod.fst h3, congrArg Prod.snd h3⟩ e
      · rw [upN_ne e2]
  · by_cases e : u = t
    · subst e
      rw [upN_at]
      refine ⟨List.nodup_append.2 ⟨hcn.1, by simp, fun x hx y hy e => ?_⟩, by simp; omega, fun x hx => ?_⟩
      · simp only [List.mem_singleton] at hy
        subst hy
        subst e
        exact hno u hu hx
      · rcases List.mem_append.1 hx with h3 | h3
        · exact hcn.2.2 x h3
        · simp only [List.mem_singleton] at h3
          rw [h3]; exact hw
    · rw [upN_ne e]; exact h.cn u hu
end
/-- The zone, where blocks of other kinds turn, and other maps. -/
theorem dz_kp {S : Nat → Prop} {w w' : World} {z : Nat} {mn lw hi : Int} {k : Nat} {nb fm tm : Nat → Nat} {nd : Nat → Nd} {fr : Nat → List Nat} (h : DZ w z mn lw hi k nb fm tm nd fr) (hk : Kp S w w') (hs : ∀ b, S b → ∀ t ∈ ([241, 242, 38, 3, 327] : List TypeId), ¬ Tag w b t) (hf : ∀ i, i < k → ¬ S (fm i) ∧ ¬ S (tm i)) : DZ w' z mn lw hi k nb fm tm nd fr := by
  have hs : Same [241, 242, 38, 3, 327] w w' := fun b t hm ht => hk.blk b ht.lt (fun hS => hs b hS t hm ht)
  have hl := h.lt
  have hz := fun j => cell_same hs (by simp) h.tz j
  obtain ⟨g, c, e1, o1⟩ := h.cn
  obtain ⟨g2, c2, rows, e2, o2, r2⟩ := h.cf
  refine ⟨(hz 0).trans h.m0, (hz 1).trans h.m1, (hz 2).trans h.m2, ⟨g, c, (hz 3).trans e1, own_same o1 hs (by simp)⟩, ⟨g2, c2, rows, (hz 4).trans e2, own_same o2 hs (by simp), fun i hi => ?_⟩, Nat.lt_of_lt_of_le hl hk.size, fun i hi => ?_, h.ok, h.ne, h.fl, tag_same hs (by simp) h.tz, fun i hi => tag_same hs (by simp) (h.tb i hi)⟩
  · obtain ⟨h', d, e3, o3⟩ := r2 i hi
    exact ⟨h', d, e3, own_same o3 hs (by simp)⟩
  · have hb := h.bd i hi
    exact hb.blk hk.size (hs _ 327 (by simp) (h.tb i hi)) (hk.blk _ hb.f.lt (hf i hi).1) (hk.blk _ hb.t.lt (hf i hi).2)
/-- The zone and the cache, where trays turn, and what is said of where objects lie. -/
theorem ps_kp {S : Nat → Prop} {N0 : Nat} {w w' : World} {c z : Nat} {ly : Ly} {sz : Int} {m : Nat} {bs : List Nat} {ss : List Sl} {mn lw hi : Int} {k : Nat} {nb fm tm : Nat → Nat} {nd : Nat → Nd} {fr : Nat → List Nat} (h : PS N0 w c z ly sz m bs ss mn lw hi k nb fm tm nd fr) (hk : Kp S w w') (hS : ∀ b, S b → Tag w b 286 ∨ Tag w b 34 ∨ Tag w b 182 ∨ Tag w b 175 ∨ Tag w b 177 ∨ b = ly.1) {q : Nat} {f : Int → Int → Option Nat} (hm : Ml w' ly.1 q f) : ∃ o, PS N0 w' c z (ly.1, o, ly.2.2) sz m bs ss mn lw hi k nb fm tm nd fr := by
  obtain ⟨o, ho, hkd⟩ := hm.kindless
  have hno : ∀ b t, Tag w b t → t ≠ 286 → t ≠ 34 → t ≠ 182 → t ≠ 175 → t ≠ 177 → ¬ S b := fun b t ht n1 n2 n3 n4 n5 hs => by
    rcases hS b hs with h' | h' | h' | h' | h' | h'
    · exact ht.ne h' n1 rfl
    · exact ht.ne h' n2 rfl
    · exact ht.ne h' n3 rfl
    · exact ht.ne h' n4 rfl
    · exact ht.ne h' n5 rfl
    · exact h.c.ym.ne ht h'.symm
  have hs : Same [248, 288, 300] w w' := fun b t hm ht => hk.blk b ht.lt (hno b t ht (by rintro rfl; simp at hm) (by rintro rfl; simp at hm) (by rintro rfl; simp at hm) (by rintro rfl; simp at hm) (by rintro rfl; simp at hm))
  have hmp : ∀ b {L : List Bl}, Mp w b L → b ≠ ly.1 → ¬ S b := fun b L hM hne hs => by
    rcases hS b hs with h' | h' | h' | h' | h' | h'
    · exact tag_map h' hM rfl
    · exact tag_map h' hM rfl
    · exact tag_map h' hM rfl
    · exact tag_map h' hM rfl
    · exact tag_map h' hM rfl
    · exact hne h'
  have hxs : ∀ j o', ly.2.2 j = some o' → ¬ S j := fun j o' e hs => by
    obtain ⟨x1, x2, x3⟩ := h.c.ym.lx j o' e
    rcases hS j hs with h' | h' | h' | h' | h' | h'
    · exact kindless_ne x1 x2 h' rfl
    · exact kindless_ne x1 x2 h' rfl
    · exact kindless_ne x1 x2 h' rfl
    · exact kindless_ne x1 x2 h' rfl
    · exact kindless_ne x1 x2 h' rfl
    · exact x3 h'
  obtain ⟨p, d, e2, o2⟩ := h.c.c2
  have hc := fun j => cell_same hs (by simp) h.c.tg j
  refine ⟨o, dz_kp h.d hk (fun b hb t ht hT => hno b t hT (by rintro rfl; simp at ht) (by rintro rfl; simp at ht) (by rintro rfl; simp at ht) (by rintro rfl; simp at ht) (by rintro rfl; simp at ht) hb) (fun i hi => ⟨hmp _ (h.d.bd i hi).f (h.ml i hi _ (Or.inl rfl)).1.symm, hmp _ (h.d.bd i hi).t (h.ml i hi _ (Or.inl rfl)).2.symm⟩), ?_, h.ow, h.mf, h.k4, h.ml⟩
  exact ⟨(hc 0).trans h.c.c0, (hc 1).trans h.c.c1, ⟨p, d, (hc 2).trans e2, own_same o2 hs (by simp)⟩, tag_same hs (by simp) h.c.tg, h.c.ge, h.c.bg, h.c.len, h.c.nd, fun i b s h1 h2 => (h.c.sl i b s h1 h2).same (hs b 300 (by simp) (h.c.sl i b s h1 h2).tg), h.c.ok, h.c.so, fun o => (World.frozen?_of_block (w := w) (a := ⟨c, o, none⟩) (hs c 248 (by simp) h.c.tg)).trans (h.c.cf o), h.c.mm, ⟨(hc 3).trans h.c.ym.c3, ho, hkd, h.c.ym.lg, fun j o' e => ⟨(hk.blk j (h.c.ym.ltk (Or.inr ⟨o', e⟩)) (hxs j o' e)).trans (h.c.ym.lx j o' e).1, (h.c.ym.lx j o' e).2⟩⟩⟩
end Mg
end Go.Proofs.YtcbmfakjfoggaaaGreatDoor
namespace Go.Proofs.YtcbmfakjfoggaaaGreatDoor
open Go.RowKit Go.Lib
namespace Mg
open Sb
theorem info165' : (Tryz.prog.info? 175).map (fun i => (i.zero, i.size, i.bytes)) = some (some (.pointer none), 1, 8) := by kernel_rfl
theorem info165 : ∃ i0, Tryz.prog.info? 175 = some i0 ∧ i0.zero = some (.pointer none) ∧ i0.size = 1 ∧ i0.bytes = 8 := by
  have h := info165'
  cases hi : Tryz.prog.info? 175 with
  | none => rw [hi] at h; cases h
  | some i0 =>
    rw [hi] at h
    simp only [Option.map_some, Option.some.injEq, Prod.mk.injEq] at h
    exact ⟨i0, rfl, h.1, h.2.1, h.2.2⟩
set_option maxHeartbeats 4000000 in
set_option maxRecDepth 1000000 in
theorem tdel_walk (g n c k : Nat) (cs : List Value) (w : World) (hk : k < n) (hcap : n ≤ c) (_hm : c ≤ 9223372036854775807) (hcl : cs.length = n)
    (hcs : ∀ j v, cs[j]? = some v → w.cell? ⟨g, j, none⟩ = some v) (hfz : ∀ j, w.frozen? ⟨g, j, none⟩ = false) (h1c : ∀ v ∈ cs, v.oneCell' = true) :
    Calls Tryz.prog 168 #[.slice (some ⟨g, 0, none⟩) n c, .int .i64 k, .int .i64 ((k : Int) + 1)] w fun e w' => e = .returned (.slice (some ⟨g, 0, none⟩) (n - 1) c) ∧ w' = (w.drew.setCells g k (cs.drop (k + 1))).setCells g (n - 1) [.pointer none] := by
  have mixed : Tryz.prog.follows .mixedOrders = true := by kernel_rfl
  obtain ⟨i0, hi0, hz0, hz1, hz2⟩ := info165
  have hlt : (k : Int) ≠ (k : Int) + 1 := by omega
  obtain ⟨news, hnews⟩ : ∃ news, news = cs.drop (k + 1) := ⟨_, rfl⟩
  have hlen : news.length = n - (k + 1) := by rw [hnews]; simp [hcl]
  have hget : ∀ t u, news[t]? = some u → w.cell? ⟨g, k + 1 + t, none⟩ = some u := fun t u hu => by
    rw [hnews, List.getElem?_drop] at hu; exact hcs _ _ hu
  have hsome : ∀ j, j < n → (w.cell? ⟨g, j, none⟩).isSome = true := fun j hj => by
    rw [hcs j _ (List.getElem?_eq_getElem (by omega))]; rfl
  obtain ⟨A, hA, hsrc⟩ : ∃ A : Addr, (if c = k + 1 then some (⟨g, 0, none⟩ : Addr) else some ⟨g, k + 1, none⟩) = some A ∧ Hid (∀ t u, news[t]? = some u → w.drew.cell? (A.add t) = some u) := by
    by_cases h : c = k + 1
    · refine ⟨⟨g, 0, none⟩, by simp [h], fun t u hu => ?_⟩
      have h0 : news.length = 0 := by rw [hlen]; omega
      rw [List.length_eq_zero_iff.1 h0] at hu
      simp at hu
    · refine ⟨⟨g, k + 1, none⟩, by simp [h], fun t u hu => ?_⟩
      rw [Addr.add_lit]
      exact hget t u hu
  have s1 : Hid (news.length = (n - (k + 1)) * 1) := by rw [Nat.mul_one]; exact hlen
  have s2 : Hid (∀ u ∈ news, u.oneCell' = true) := by
    intro u hu
    rw [hnews] at hu
    exact h1c u (List.mem_of_mem_drop hu)
  have s3 : Hid (∀ t, t < news.length → (w.drew.cell? ⟨g, 0 + k * 1 + t, none⟩).isSome = true ∧ w.drew.frozen? ⟨g, 0 + k * 1 + t, none⟩ = false) := by
    intro t ht
    rw [hlen] at ht
    exact ⟨hsome _ (by omega), hfz _⟩
  obtain ⟨W1, hW1⟩ : ∃ W1, W1 = w.drew.setCells g (0 + k * 1) news := ⟨_, rfl⟩
  have hc1 : ∀ j, j < n → (W1.cell? ⟨g, j, none⟩).isSome = true := fun j hj => by
    rw [hW1]
    exact isSome_setCells g _ _ w.drew (fun t ht => hsome _ (by rw [hlen] at ht; omega)) _ (hsome j hj)
  have hf1 : ∀ j, W1.frozen? ⟨g, j, none⟩ = false := fun j => by rw [hW1, World.frozen?_setCells]; exact hfz j
  have hcl1 : ∀ ty, (Builtin.clear_ #[180] ty #[.slice (some ⟨g, k + (n - (k + 1)), none⟩) (n - (k + (n - (k + 1)))) (c - (k + (n - (k + 1))))]).run Tryz.prog W1 = .ok (.tuple #[]) (W1.setCells g (k + (n - (k + 1))) (List.replicate (n - (k + (n - (k + 1)))) (.pointer none))) :=
    fun ty => Lib.run_clear_slice W1 _ _ ty _ Tryz.underlying180 Tryz.zeroValue175 rfl rfl g (k + (n - (k + 1))) _ _ (by omega) (fun t ht => hc1 _ (by omega)) (fun t ht => hf1 _)
  have hW : Hid (W1 = w.drew.setCells g (0 + k * 1) news) := hW1
  have HN : Hid (news = cs.drop (k + 1)) := hnews
  have hic : k ≤ c := by omega
  have hjc : k + 1 ≤ c := by omega
  have htn : ((k : Int) + 1).toNat = k + 1 := by omega
  have hb1 : (0 : Int) ≤ (k : Int) + 1 := by omega
  have hb2 : (k : Int) ≤ (k : Int) + 1 := by omega
  have hb3 : (k : Int) + 1 ≤ (n : Int) := by omega
  clear hW1 hcs hget hnews hlen hsome hc1 hf1
  go_enter Tryz.func168, Tryz.ntmps168
  go_wp2_with fail
  go_region_law_o (refine step_append_room rfl (.tmp 22) (.tmp 25) 180 rfl 175 i0 1 Tryz.underlying180 hi0 hz1 g 0 k c (by simp [Act.eval, Act.put]) A (n - (k + 1)) (c - (k + 1)) news (by simp [Act.eval, Act.put]) s1.out hsrc.out s2.out (by omega) s3.out ?_; rw [← hW.out])
  go_wp2
  go_ret
  refine ⟨by rw [show n - 1 = k + (n - (k + 1)) by omega]; rfl, ?_⟩
  rw [hW.out, HN.out, show n - (k + (n - (k + 1))) = 1 by omega, show k + (n - (k + 1)) = n - 1 by omega, show 0 + k * 1 = k by omega]
  rfl
/-- Delete of one, over the row. -/
theorem tdel_own (N0 : Nat) (p : Option Addr) (n d k : Nat) (cs : List Value) (w : World) (h : w.ownsRow N0 175 1 (.slice p n d) n cs) (hk : k < n) (h1c : ∀ v ∈ cs, v.oneCell' = true) :
    Calls Tryz.prog 168 #[.slice p n d, .int .i64 k, .int .i64 ((k : Int) + 1)] w fun ev w' => ev = .returned (.slice p (n - 1) d) ∧ w'.ownsRow N0 175 1 (.slice p (n - 1) d) (n - 1) (cs.eraseIdx k) ∧ w.grownBy w' (Value.slice p n d).ownBlock := by
  have hcl : cs.length = n := by have := h.1; omega
  obtain ⟨hl, hh⟩ := h
  rcases hh with ⟨_, h0⟩ | ⟨g, cap, cur, hv', hNg, hg, hcap, hmax, hsz, htk⟩
  · omega
  · simp only [Value.slice.injEq, true_and] at hv'
    obtain ⟨rfl, rfl⟩ := hv'
    have hcur : ∀ j, j < n → cur[j]? = cs[j]? := fun j hj => by
      rw [← htk, Nat.mul_one, List.getElem?_take, if_pos hj]; simp
    have hcell : ∀ j, w.cell? ⟨g, j, none⟩ = cur[j]? := fun j => cell_of_row w g j cur 175 (0, 0) hg
    have hcs : ∀ j v, cs[j]? = some v → w.cell? ⟨g, j, none⟩ = some v := fun j v hj => by
      rw [hcell, hcur j (by have := (List.getElem?_eq_some_iff.mp hj).1; omega)]; exact hj
    refine (tdel_walk g n d k cs w hk hcap (by unfold maxLen at hmax; omega) hcl hcs (fun j => by simp [World.frozen?, hg]) h1c).mono ?_
    rintro ev w' ⟨rfl, rfl⟩
    obtain ⟨c1, a1, a2, a3⟩ := blk_setCells g 175 (0, 0) (cs.drop (k + 1)) k w.drew cur hg
    obtain ⟨c2, b1, b2, b3⟩ := blk_setCells g 175 (0, 0) [.pointer none] (n - 1) _ c1 a1
    refine ⟨rfl, own_of b1 hNg (by omega) hmax (by omega) (by rw [List.length_eraseIdx]; simp [hcl, hk]) (fun j hj => ?_), grown_trans (grown_trans (grown_drew w _) (grown_setCells g _ _ _)) (grown_setCells g _ _ _)⟩
    rw [b3 j, a3 j, List.getElem?_eraseIdx]
    simp only [List.length_singleton, List.length_drop, hcl]
    rw [if_neg (by omega)]
    by_cases h1 : j < k
    · rw [if_neg (by omega), if_pos h1, hcur j (by omega)]
    · rw [if_pos (by omega), if_neg h1, List.getElem?_drop]
      congr 1; omega
end Mg
end Go.Proofs.YtcbmfakjfoggaaaGreatDoor
