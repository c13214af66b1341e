/- Package slab's add: a slab of a page, put where it belongs · Package slab's object: where an object lies · A slab's bit asked; how many objects a page has · Package bits: how many bits are set; how many are not, from the lowest on. -/
import Derived.Test.YtcbmfakjfoggaaaGreatDoorG17
import Derived.Test.YtcbmfakjfoggaaaGreatDoorG18
import Derived.Test.YtcbmfakjfoggaaaGreatDoorG16
import Derived.BigRegion
import Derived.Deep.RegionHeld3
import Derived.Test.YtcbmfakjfoggaaaGreatDoorG11
import Derived.Test.YtcbmfakjfoggaaaGreatDoorG05
import Derived.Shelf.Spec.TrailingZeros
import Derived.Test.YtcbmfakjfoggaaaGreatDoorG00
namespace Go.Proofs.YtcbmfakjfoggaaaGreatDoor
open Go.RowKit Go.Maps
namespace Sb
open Fr Bd Zn Dz
theorem cm_lt (s : Sl) (x : Nat) (a : Int) : cm s x a < 0 ↔ lt s x a := by
  unfold cm orv cmpv lt
  by_cases h1 : (s.nd : Int) < x
  · simp [h1]; omega
  · by_cases h2 : (x : Int) < s.nd
    · simp [h1, h2]; omega
    · by_cases h3 : s.at_ < a
      · simp [h1, h2, h3]; omega
      · by_cases h4 : a < s.at_
        · simp [h1, h2, h3, h4]; omega
        · simp [h1, h2, h3, h4]; omega
theorem cm_mono {ss : List Sl} (hs : Sorted ss) (x : Nat) (a : Int) : ∀ i j, i ≤ j → j < ss.length → cm (ss.getD j default) x a < 0 → cm (ss.getD i default) x a < 0 := by
  intro i j hij hj h
  rcases Nat.eq_or_lt_of_le hij with rfl | hlt
  · exact h
  · have hi : i < ss.length := by omega
    have e1 := List.getElem?_eq_getElem hi
    have e2 := List.getElem?_eq_getElem hj
    rw [getD_at e2] at h
    rw [getD_at e1]
    rw [cm_lt] at h ⊢
    exact lt_trans (sorted_at hs e1 e2 hlt) h
theorem pos_of {ss : List Sl} {x : Nat} {a : Int} {k : Nat} (h : k ≤ ss.length ∧ (∀ t, t < k → cm (ss.getD t default) x a < 0) ∧ ∀ t, k ≤ t → t < ss.length → 0 ≤ cm (ss.getD t default) x a) : Pos ss x a k := by
  refine ⟨h.1, fun t s ht hs => ?_, fun t s ht hs hl => ?_⟩
  · have := h.2.1 t ht
    rw [getD_at hs, cm_lt] at this
    exact this
  · have := h.2.2 t ht (List.getElem?_eq_some_iff.mp hs).1
    rw [getD_at hs] at this
    rw [← cm_lt] at hl
    omega
theorem ptrl_one (bs : List Nat) : ∀ v ∈ ptrl bs, v.oneCell' = true := by
  intro v hv
  obtain ⟨b, _, rfl⟩ := List.mem_map.1 hv
  rfl
section
variable {N0 : Nat} {w w' : World} {c z : Nat} {ly : Ly} {sz : Int} {m : Nat} {bs : List Nat} {ss : List Sl}
/-- The cache's slabs, for the library. -/
theorem DC.slabs (h : DC N0 w c z ly sz m bs ss) {p : Option Addr} {d : Nat} (ho : w.ownsRow N0 288 1 (.slice p bs.length d) bs.length (ptrl bs)) : Slabs w p ss.length (fun i => bs.getD i 0) (fun i => ss.getD i default) := by
  intro i hi
  have hb : i < bs.length := by rw [h.len]; exact hi
  obtain ⟨b, s, e1, e2, e3, e4⟩ := h.slab hi
  rcases ho.2 with ⟨_, h0⟩ | ⟨g, cap, cur, hv, hg, hh, _⟩
  · omega
  · simp only [Value.slice.injEq, true_and] at hv
    obtain ⟨rfl, rfl⟩ := hv
    have hl := ho.lt g rfl
    refine ⟨g, rfl, hl.2, ?_⟩
    simp only [getD_at e1, getD_at e2]
    exact ⟨(ho.cellAt i (by omega)).trans (ptrl_at e1), e3.tg.lt, e3.c0, e3.c1⟩
/-- One more slab. -/
theorem DC.ins (h : DC N0 w c z ly sz m bs ss) {b k : Nat} {x : Sl} (hp : Pos ss x.nd x.at_ k) (hne : ∀ s ∈ ss, s.nd = x.nd → s.at_ ≠ x.at_) (hok : sok m x) (hb : b ∉ bs) (hbN : N0 ≤ b) (hS : SLm w' b x) (h0 : w'.cell? ⟨c, 0, none⟩ = some (ptr z)) (h1 : w'.cell? ⟨c, 1, none⟩ = some (.int .i64 sz)) {p : Option Addr} {d : Nat}
    (h2 : w'.cell? ⟨c, 2, none⟩ = some (.slice p (bs.length + 1) d)) (ho : w'.ownsRow N0 288 1 (.slice p (bs.length + 1) d) (bs.length + 1) (Sb.ins (ptrl bs) k (ptr b))) (ht : Tag w' c 248) (hcf : ∀ o, w'.frozen? ⟨c, o, none⟩ = false) (hold : ∀ (j b' : Nat) (s : Sl), bs[j]? = some b' → ss[j]? = some s → SLm w' b' s) (hym : LY N0 w' c ly) : DC N0 w' c z ly sz m (Sb.ins bs k b) (Sb.ins ss k x) := by
  have hkb : k ≤ bs.length := by rw [h.len]; exact hp.1
  have hl : (Sb.ins bs k b).length = bs.length + 1 := ins_length _ _ _
  refine ⟨h0, h1, ⟨p, d, by rw [hl]; exact h2, ?_⟩, ht, h.ge, fun b' hb' => ?_, by rw [ins_length, ins_length, h.len], ?_, fun i b' s e1 e2 => ?_, fun s hs => ?_, sorted_ins h.so hp hne, hcf, h.mm, hym⟩
  · rw [hl]
    have e : ptrl (Sb.ins bs k b) = Sb.ins (ptrl bs) k (ptr b) := ins_map _ _ _ _
    rw [e]; exact ho
  · rcases ins_mem.mp hb' with rfl | h'
    · exact hbN
    · exact h.bg b' h'
  · unfold Sb.ins
    rw [List.nodup_append, List.nodup_cons]
    have hn := h.nd
    rw [← List.take_append_drop k bs, List.nodup_append] at hn
    refine ⟨hn.1, ⟨fun hm => hb (List.mem_of_mem_drop hm), hn.2.1⟩, fun y hy y' hy' e => ?_⟩
    subst e
    rcases List.mem_cons.mp hy' with rfl | h'
    · exact hb (List.mem_of_mem_take hy)
    · exact hn.2.2 y hy y h' rfl
  · rw [ins_get _ hkb] at e1
    rw [ins_get _ hp.1] at e2
    split at e1
    · rename_i hlt
      rw [if_pos hlt] at e2
      exact hold i b' s e1 e2
    · rename_i hlt
      rw [if_neg hlt] at e2
      split at e1
      · rename_i he
        rw [if_pos he] at e2
        cases e1; cases e2
        exact hS
      · rename_i he
        rw [if_neg he] at e2
        exact hold (i - 1) b' s e1 e2
  · rcases ins_mem.mp hs with rfl | h'
    · exact hok
    · exact h.ok s h'
end
theorem fz_new (w : World) (cs : Array Value) (t : TypeId) {g : Nat} (hg : w.heap.size = g) (o : Nat) : (w.alloc (.cells cs t)).frozen? ⟨g, o, none⟩ = false := by
  subst hg
  exact World.frozen?_alloc_at cs t w.heap.size o rfl
/-- What add does. -/
def AddR (N0 : Nat) (w : World) (c z : Nat) (ly : Ly) (sz : Int) (m : Nat) (bs : List Nat) (ss : List Sl) (x : Nat) (a : Int) (ev : Ending) (w' : World) : Prop :=
  ∃ b k, ev = .returned (ptr b) ∧ Pos ss x a k ∧ w.heap.size ≤ b ∧ DC N0 w' c z ly sz m (Sb.ins bs k b) (Sb.ins ss k ⟨x, a, 0⟩) ∧ Chg [some 248, some 288] N0 w w'
set_option maxRecDepth 100000 in
set_option maxHeartbeats 8000000 in
theorem add_ok (N0 : Nat) (c z : Nat) (ly : Ly) (sz : Int) (m : Nat) (bs : List Nat) (ss : List Sl) (x : Nat) (a : Int) (w : World) (h : DC N0 w c z ly sz m bs ss) (hne : ∀ s ∈ ss, s.nd = x → s.at_ ≠ a) (hx : x < 1000) (ha : 0 ≤ a ∧ a < 256) (hn : ss.length ≤ 10000) :
    Calls Tryz.prog 172 #[ptr c, plV x a 0] w fun ev w' => AddR N0 w c z ly sz m bs ss x a ev w' := by
  have hcl := h.tg.lt
  have F1 := ballo (Below.refl w.heap.size w) (plO x a 0)
  have q0 := World.cell?_alloc_new w #[.int .i64 x, .int .i64 a, .int .i64 0] 293 0
  have q1 := World.cell?_alloc_new w #[.int .i64 x, .int .i64 a, .int .i64 0] 293 1
  have q2 := World.cell?_alloc_new w #[.int .i64 x, .int .i64 a, .int .i64 0] 293 2
  simp only [List.getElem?_toArray, List.getElem?_cons_zero, List.getElem?_cons_succ] at q0 q1 q2
  have hsz : (w.alloc (.cells #[.int .i64 x, .int .i64 a, .int .i64 0] 293)).heap.size = w.heap.size + 1 := by simp
  have HBL : Hid (w.heap.size + 1 ∉ bs) := fun (hm : w.heap.size + 1 ∈ bs) => by
    obtain ⟨i, hi, e⟩ := List.getElem_of_mem hm
    have := (h.sl i _ _ (List.getElem?_eq_getElem hi) (List.getElem?_eq_getElem (by rw [← h.len]; exact hi))).tg.lt
    rw [e] at this
    omega
  have HD := hide h
  have HF1 := hide F1
  clear h F1
  unfold ptr plV plO at *
  go_enter Tryz.func172, Tryz.ntmps172
  go_upto_region 1 with (fail)
  generalize w.alloc (.cells #[.int .i64 x, .int .i64 a, .int .i64 0] 293) = W at *
  go_upto_region 2 with (fail)
  have F2 := ballo (unhide HF1) (.cells #[.int .i64 x, .int .i64 a, .int .i64 0, .int .u64 0] 300)
  have G2 := ballo (Below.refl W.heap.size W) (.cells #[.int .i64 x, .int .i64 a, .int .i64 0, .int .u64 0] 300)
  have r := World.cell?_alloc_new W #[.int .i64 x, .int .i64 a, .int .i64 0, .int .u64 0] 300
  have tb := tag_new W #[.int .i64 x, .int .i64 a, .int .i64 0, .int .u64 0] 300
  have hs2 : (W.alloc (.cells #[.int .i64 x, .int .i64 a, .int .i64 0, .int .u64 0] 300)).heap.size = w.heap.size + 2 := by simp [hsz]
  have r0 := r 0
  have r1 := r 1
  have r2 := r 2
  have r3 := r 3
  have p0 := (G2.cell (p := ⟨w.heap.size, 0, none⟩) (by rw [hsz]; simp)).trans q0
  have p1 := (G2.cell (p := ⟨w.heap.size, 1, none⟩) (by rw [hsz]; simp)).trans q1
  have p2 := (G2.cell (p := ⟨w.heap.size, 2, none⟩) (by rw [hsz]; simp)).trans q2
  simp only [List.getElem?_toArray, List.getElem?_cons_zero, List.getElem?_cons_succ] at r0 r1 r2 r3
  clear q0 q1 q2 r G2
  rw [hsz] at r0 r1 r2 r3 tb
  generalize hW2 : W.alloc (.cells #[.int .i64 x, .int .i64 a, .int .i64 0, .int .u64 0] 300) = W2 at *
  have HS2 : Hid (SLm W2 (w.heap.size + 1) ⟨x, a, 0⟩) := ⟨r0, r1, r2, r3, tb, fun o => by rw [← hW2]; exact fz_new W _ _ hsz o⟩
  clear r0 r1 r2 r3 tb hW2 HF1
  have D2 := (unhide HD).b F2
  obtain ⟨p, d, e2, o2⟩ := D2.c2
  have hSl := D2.slabs o2
  have hnl := D2.len
  have HBS := hide (fun W3 (hb : Below W2.heap.size W2 W3) => bs_ok p ss.length d (fun i => bs.getD i 0) (fun i => ss.getD i default) x a 0 W3 (hSl.b hb) (by omega) (cm_mono D2.so x a))
  have HD2 := hide D2
  have HO2 := hide o2
  have HF2 := hide F2
  clear D2 o2 hSl F2 HD
  rw [hnl] at e2
  unfold plV at *
  have hcl2 : c < W2.heap.size := by omega
  go_region_held3 (fun w' => w'.cell? ⟨c, 2, none⟩ = some (.slice p ss.length d) ∧ w'.cell? ⟨w.heap.size, 0, none⟩ = some (.int .i64 x) ∧ w'.cell? ⟨w.heap.size, 1, none⟩ = some (.int .i64 a) ∧ w'.cell? ⟨w.heap.size, 2, none⟩ = some (.int .i64 0)) ((first | (go_keep; done) | (exact ⟨(Below.cell (by assumption) (p := ⟨c, 2, none⟩) hcl2).trans e2, (Below.cell (by assumption) (p := ⟨w.heap.size, 0, none⟩) (by rw [hs2]; simp)).trans p0, (Below.cell (by assumption) (p := ⟨w.heap.size, 1, none⟩) (by rw [hs2]; simp)).trans p1, (Below.cell (by assumption) (p := ⟨w.heap.size, 2, none⟩) (by rw [hs2]; simp)).trans p2⟩))) ((go_at_call 231; refine ((unhide HBS) _ (drw W2)).mono ?_; rintro ev w3 ⟨k, f, rfl, hk, b3⟩; have f3 : Below W2.heap.size W2 w3 := bd b3))
  have D3 := (unhide HD2).b f3
  have F3 := (unhide HF2).trans (f3.mono (by omega))
  have hS3 := (unhide HS2).b f3
  have o3 := own_b (unhide HO2) f3
  have hw3 : w.heap.size + 2 ≤ w3.heap.size := by have := f3.size; omega
  have G4 := ballo (Below.refl w3.heap.size w3) (.cells #[.pointer (some ⟨w.heap.size + 1, 0, none⟩)] 288)
  have D4 := D3.b G4
  have S4 := hS3.b G4
  have o4 := own_b o3 G4
  rw [hnl] at o4
  have hnew := heap_alloc_new w3 (.cells #[.pointer (some ⟨w.heap.size + 1, 0, none⟩)] 288)
  have hrow : ∀ g o, p = some ⟨g, o, none⟩ → w3.heap.size ≠ g := fun g o e => by
    have := o3.lt g (by rw [e]; rfl)
    omega
  have HIN := hide (insert_own N0 p ss.length d k w3.heap.size (ptrl bs) (ptr (w.heap.size + 1)) _ o4 hk.1 (by omega) (by have := D4.tg.lt; have := D4.ge; omega) hnew hrow (ptrl_one bs) rfl)
  have c2 := (f3.cell (p := ⟨c, 2, none⟩) hcl2).trans e2
  have hne5 : some c ≠ (Value.slice p ss.length d).ownBlock := fun e => by
    rcases o4.2 with ⟨e2, _⟩ | ⟨g, cap, cur, e2, hg, hh, _⟩
    · rw [e2] at e; cases e
    · rw [e2] at e
      simp only [Value.ownBlock, Option.some.injEq] at e
      subst e
      exact D4.tg.ne ⟨cur, _, hh⟩ (by decide) rfl
  have HD4 := hide D4
  have HS4 := hide S4
  have HO4 := hide o4
  have HPos := hide (pos_of hk)
  have hcl3 : c < w3.heap.size := by omega
  have hc4 := (G4.cell (p := ⟨c, 2, none⟩) hcl3).trans c2
  have HF4 := hide (F3.trans (G4.mono (by omega)))
  have HC5 : Hid (∀ w5, (w3.alloc (.cells #[.pointer (some ⟨w.heap.size + 1, 0, none⟩)] 288)).grownBy w5 (Value.slice p ss.length d).ownBlock → w5.cell? ⟨c, 2, none⟩ = some (.slice p ss.length d) ∧ w5.frozen? ⟨c, 2, none⟩ = false) := fun w5 hg => by
    have e := hg.block c D4.tg.lt hne5
    exact ⟨(World.cell?_of_block (a := ⟨c, 2, none⟩) e).trans hc4, (World.frozen?_of_block (a := ⟨c, 2, none⟩) e).trans (D4.cf 2)⟩
  have HN5 := hide hne5
  clear D3 F3 hS3 o3 G4 D4 S4 o4 hnew hk f3 b3 HBS HD2 HO2 HF2 HS2 p0 p1 p2 e2 hne5 hrow hc4
  unfold ptr at *
  go_wp2_with (go_at_call 234; refine (unhide HIN).mono ?_; rintro ev w5 ⟨p', d', rfl, o5, g5⟩; obtain ⟨c5, f5⟩ := (unhide HC5) w5 g5)
  have RES : AddR N0 w c z ly sz m bs ss x a (.returned (.pointer (some ⟨w.heap.size + 1, 0, none⟩))) (w5.setCell ⟨c, 2, none⟩ (.slice p' (ss.length + 1) d')) := by
    have D4 := unhide HD4
    have ge := D4.ge
    have hN4 : N0 ≤ (w3.alloc (.cells #[.pointer (some ⟨w.heap.size + 1, 0, none⟩)] 288)).heap.size := by have := D4.tg.lt; omega
    have hcb : w5.heap[c]? = _ := g5.block c D4.tg.lt (unhide HN5)
    have hcell : ∀ j v, (w3.alloc (.cells #[.pointer (some ⟨w.heap.size + 1, 0, none⟩)] 288)).cell? ⟨c, j, none⟩ = some v → w5.cell? ⟨c, j, none⟩ = some v := fun j v hv => (World.cell?_of_block (a := ⟨c, j, none⟩) hcb).trans hv
    have htag5 := D4.tg.blk hcb
    have hsl : ∀ b' s, SLm (w3.alloc (.cells #[.pointer (some ⟨w.heap.size + 1, 0, none⟩)] 288)) b' s → SLm (w5.setCell ⟨c, 2, none⟩ (.slice p' (ss.length + 1) d')) b' s := fun b' s hs => by
      have hne1 : some b' ≠ (Value.slice p ss.length d).ownBlock := fun e => by
        have o4 := unhide HO4
        rcases o4.2 with ⟨e2, _⟩ | ⟨g, cap, cur, e2, hg, hh, _⟩
        · rw [e2] at e; cases e
        · rw [e2] at e
          simp only [Value.ownBlock, Option.some.injEq] at e
          subst e
          exact hs.tg.ne ⟨cur, _, hh⟩ (by decide) rfl
      have hne2 : b' ≠ c := hs.tg.ne D4.tg (by decide)
      exact hs.same ((Below.heap_setCell _ _ _ _ hne2).trans (g5.block b' hs.tg.lt hne1))
    have o6 : (w5.setCell ⟨c, 2, none⟩ (.slice p' (ss.length + 1) d')).ownsRow N0 288 1 (.slice p' (ss.length + 1) d') (ss.length + 1) (Sb.ins (ptrl bs) k (ptr (w.heap.size + 1))) :=
      own_same o5 ((Chg.set htag5 ge 2 _).toSame (us := [288]) (by simp)) (by simp)
    refine ⟨w.heap.size + 1, k, rfl, unhide HPos, by omega, ?_, ?_⟩
    · refine DC.ins (unhide HD4) (unhide HPos) hne ⟨ha.1, ha.2, Nat.two_pow_pos _, hx⟩ (unhide HBL) (by omega) (hsl _ _ (unhide HS4)) ((cso (by simp)).trans (hcell 0 _ D4.c0)) ((cso (by simp)).trans (hcell 1 _ D4.c1)) (p := p') (d := d') ?_ (by rw [hnl]; exact o6) (htag5.set _ _) (fun o => ?_) (fun j b' s e1 e2 => hsl b' s (D4.sl j b' s e1 e2)) (D4.ym.set ((cso (by simp)).trans (hcell 3 _ D4.ym.c3)) ((((Chg.grown g5 (unhide HO4)).mono (by simp) (Nat.le_refl _)).trans ((Chg.set htag5 ge 2 _).mono (by simp) (Nat.le_refl _)) : Chg [some 248, some 288] N0 _ _).ly (by simp) D4.ym))
      · rw [hnl]; exact css c5
      · rw [World.frozen?_setCell]
        exact (World.frozen?_of_block (a := ⟨c, o, none⟩) hcb).trans (D4.cf o)
    · exact ((Chg.below (unhide HF4)).trans ((Chg.grown g5 (unhide HO4)).mono (by simp) (Nat.le_refl _))).trans ((Chg.set htag5 ge 2 _).mono (by simp) (Nat.le_refl _))
  go_ret
  exact RES
end Sb
end Go.Proofs.YtcbmfakjfoggaaaGreatDoor
namespace Go.Proofs.YtcbmfakjfoggaaaGreatDoor
open Go.RowKit
namespace Sb
open Fr Bd Zn Dz
def objV (x a : Int) : Value := .agg #[.int .i64 x, .int .i64 a]
set_option maxRecDepth 100000 in
set_option maxHeartbeats 4000000 in
theorem obj_ok (c b : Nat) (sz nd at_ i : Int) (w : World) (h0 : w.cell? ⟨b, 0, none⟩ = some (.int .i64 nd)) (h1 : w.cell? ⟨b, 1, none⟩ = some (.int .i64 at_)) (hc : w.cell? ⟨c, 1, none⟩ = some (.int .i64 sz)) (ha : 0 ≤ at_ ∧ at_ < 256) (hs : 1 ≤ sz ∧ sz ≤ 64) (hi : 0 ≤ i ∧ i < 64) :
    Calls Tryz.prog 174 #[ptr c, ptr b, .int .i64 i] w fun ev w' => ev = .returned (objV nd (at_ * 64 + i * sz)) ∧ Below w.heap.size w w' := by
  obtain ⟨q, hq⟩ : ∃ q, q = i * sz := ⟨_, rfl⟩
  have q0 : 0 ≤ q := by rw [hq]; exact Int.mul_nonneg hi.1 (by omega)
  have q1 : q ≤ 64 * 64 := by
    rw [hq]
    exact Int.mul_le_mul (by omega) hs.2 (by omega) (by omega)
  rw [← hq]
  have m1 : IntKind.i64.wrap (i * sz) = q := by rw [← hq]; exact IntWalk.i64_in _ (by omega)
  have m2 : IntKind.i64.wrap (at_ * 64) = at_ * 64 := IntWalk.i64_in _ (by omega)
  have m3 : IntKind.i64.wrap (at_ * 64 + q) = at_ * 64 + q := IntWalk.i64_in _ (by omega)
  have lb := World.block_lt_of_cell? w _ h0
  have lc := World.block_lt_of_cell? w _ hc
  simp only at lb lc
  have F1 := ballo (Below.refl w.heap.size w) (.cells #[.int .i64 0, .int .i64 0] 34)
  have k0 := (F1.cell (p := ⟨b, 0, none⟩) lb).trans h0
  have k1 := (F1.cell (p := ⟨b, 1, none⟩) lb).trans h1
  have k2 := (F1.cell (p := ⟨c, 1, none⟩) lc).trans hc
  have r := World.cell?_alloc_new w #[.int .i64 0, .int .i64 0] 34
  have r0 := r 0
  have r1 := r 1
  have f0 : ∀ o, (w.alloc (.cells #[.int .i64 0, .int .i64 0] 34)).frozen? ⟨w.heap.size, o, none⟩ = false := fun o => World.frozen?_alloc_at _ _ w.heap.size o rfl
  have f00 := f0 0
  have f01 := f0 1
  simp only [List.getElem?_toArray, List.getElem?_cons_zero, List.getElem?_cons_succ] at r0 r1
  have hne1 : b ≠ w.heap.size := by omega
  have hne2 : c ≠ w.heap.size := by omega
  have HF := hide F1
  clear h0 h1 hc F1 r f0 hq
  unfold ptr objV at *
  go_enter Tryz.func174, Tryz.ntmps174
  go_upto_region 1 with (fail)
  generalize w.alloc (.cells #[.int .i64 0, .int .i64 0] 34) = W at *
  have HK : Hid (∀ u v, ((W.setCell ⟨w.heap.size, 0, none⟩ u).setCell ⟨w.heap.size, 1, none⟩ v).cell? ⟨b, 0, none⟩ = some (.int .i64 nd) ∧ ((W.setCell ⟨w.heap.size, 0, none⟩ u).setCell ⟨w.heap.size, 1, none⟩ v).cell? ⟨b, 1, none⟩ = some (.int .i64 at_) ∧ ((W.setCell ⟨w.heap.size, 0, none⟩ u).setCell ⟨w.heap.size, 1, none⟩ v).cell? ⟨c, 1, none⟩ = some (.int .i64 sz)) := fun u v =>
    ⟨(cso (by simp <;> omega)).trans ((cso (by simp <;> omega)).trans k0), (cso (by simp <;> omega)).trans ((cso (by simp <;> omega)).trans k1), (cso (by simp <;> omega)).trans ((cso (by simp <;> omega)).trans k2)⟩
  have t0 : ∀ u v, ((W.setCell ⟨w.heap.size, 0, none⟩ u).setCell ⟨w.heap.size, 1, none⟩ v).cell? ⟨w.heap.size, 0, none⟩ = some u := fun u v => (cso (by simp)).trans (css r0)
  have t1 : ∀ u v, ((W.setCell ⟨w.heap.size, 0, none⟩ u).setCell ⟨w.heap.size, 1, none⟩ v).cell? ⟨w.heap.size, 1, none⟩ = some v := fun u v => css ((cso (by simp)).trans r1)
  go_region_held3 (fun w' => w'.cell? ⟨b, 0, none⟩ = some (.int .i64 nd) ∧ w'.cell? ⟨b, 1, none⟩ = some (.int .i64 at_) ∧ w'.cell? ⟨c, 1, none⟩ = some (.int .i64 sz)) ((first | (go_keep; done) | (exact (unhide HK) _ _))) (fail)
  go_wp2
  refine bodyPost_ret (v := .agg #[.int .i64 nd, .int .i64 (at_ * 64 + q)]) (by simp [results, Tryz.results174, go_sem, t0, t1]; try rfl) rfl ?_
  exact ⟨rfl, (((unhide HF).setCell (Nat.le_refl _) _).setCell (Nat.le_refl _) _).drew⟩
end Sb
end Go.Proofs.YtcbmfakjfoggaaaGreatDoor
namespace Go.Proofs.YtcbmfakjfoggaaaGreatDoor
open Go.RowKit
namespace Sb
open Fr Bd
theorem shr_bit (x : Nat) (i : Nat) (hx : x < 18446744073709551616) : (bits .and .u64 ((x : Int) / 2 ^ i) 1 == 1) = x.testBit i := by
  have e : (x : Int) / 2 ^ i = ((x / 2 ^ i : Nat) : Int) := by push_cast; rfl
  have hl : x / 2 ^ i < 18446744073709551616 := Nat.lt_of_le_of_lt (Nat.div_le_self _ _) hx
  rw [e, show (1 : Int) = ((1 : Nat) : Int) from rfl, bits_and_u64_nat _ _ hl (by omega), nat_mask1, bit_div]
  cases x.testBit i <;> simp
set_option maxHeartbeats 2000000 in
theorem shas_ok (b i x : Nat) (w : World) (h3 : w.cell? ⟨b, 3, none⟩ = some (.int .u64 x)) (hi : i < 64) (hx : x < 18446744073709551616) :
    Calls Tryz.prog 214 #[ptr b, .int .i64 i] w fun ev w' => ev = .returned (.bool (x.testBit i)) ∧ w' = w := by
  have hb := shr_bit x i hx
  unfold ptr
  go_enter Tryz.func214, Tryz.ntmps214
  go_wp2
  go_ret
  exact ⟨rfl, rfl⟩
set_option maxHeartbeats 2000000 in
theorem room_ok (c : Nat) (sz : Int) (w : World) (h1 : w.cell? ⟨c, 1, none⟩ = some (.int .i64 sz)) (h : 1 ≤ sz) (h64 : sz ≤ 64) :
    Calls Tryz.prog 219 #[ptr c] w fun ev w' => ev = .returned (.int .i64 (64 / sz)) ∧ w' = w := by
  unfold ptr
  go_enter Tryz.func219, Tryz.ntmps219
  go_wp2
  go_ret
  exact ⟨rfl, rfl⟩
end Sb
end Go.Proofs.YtcbmfakjfoggaaaGreatDoor
namespace Go.Proofs.YtcbmfakjfoggaaaGreatDoor
open Go.RowKit
namespace Sb

theorem wrap_add64 (a b : Nat) (h : a + b < 18446744073709551616) : IntKind.u64.wrap ((a : Int) + (b : Int)) = ((a + b : Nat) : Int) := by
  rw [IntKind.wrap_u64]; omega
theorem and_nat (a b : Nat) (ha : a < 18446744073709551616) (hb : b < 18446744073709551616) : bits .and .u64 (a : Int) (b : Int) = ((a &&& b : Nat) : Int) := bits_and_u64_nat a b ha hb
theorem and_i64 (a : Nat) (ha : a < 9223372036854775808) : bits .and .i64 (a : Int) 127 = ((a % 128 : Nat) : Int) := by
  have h1 : (BitVec.ofInt 64 (a : Int)).toNat = a := by
    rw [BitVec.ofInt_natCast, BitVec.toNat_ofNat]; exact Nat.mod_eq_of_lt (by omega)
  have h2 : (BitVec.ofInt 64 (127 : Int)).toNat = 127 := by decide
  show IntKind.i64.wrap ((BitVec.ofInt 64 (a : Int) &&& BitVec.ofInt 64 (127 : Int)).toNat : Int) = _
  rw [BitVec.toNat_and, h1, h2, show (127 : Nat) = 2 ^ 7 - 1 from rfl, Nat.and_two_pow_sub_one_eq_mod, IntKind.wrap_i64]
  omega
set_option maxHeartbeats 4000000 in
theorem ones_ok (x : Nat) (w : World) (hx : x < 18446744073709551616) :
    Calls Tryz.prog 218 #[.int .u64 x] w fun ev w' => ev = .returned (.int .i64 (pop x 64)) ∧ w' = w := by
  have hm5 : mk 4 5 16 = 6148914691236517205 := by decide +kernel
  have hm3 : mk 4 3 16 = 3689348814741910323 := by decide +kernel
  have hmf : mk 8 15 8 = 1085102592571150095 := by decide +kernel
  obtain ⟨a1, ha1⟩ : ∃ a : Nat, a = x / 2 &&& 6148914691236517205 := ⟨_, rfl⟩
  obtain ⟨b1, hb1⟩ : ∃ a : Nat, a = x &&& 6148914691236517205 := ⟨_, rfl⟩
  obtain ⟨y1, hy1⟩ : ∃ a : Nat, a = a1 + b1 := ⟨_, rfl⟩
  obtain ⟨a2, ha2⟩ : ∃ a : Nat, a = y1 / 4 &&& 3689348814741910323 := ⟨_, rfl⟩
  obtain ⟨b2, hb2⟩ : ∃ a : Nat, a = y1 &&& 3689348814741910323 := ⟨_, rfl⟩
  obtain ⟨y2, hy2⟩ : ∃ a : Nat, a = a2 + b2 := ⟨_, rfl⟩
  obtain ⟨s2, hs2⟩ : ∃ a : Nat, a = y2 / 16 + y2 := ⟨_, rfl⟩
  obtain ⟨y3, hy3⟩ : ∃ a : Nat, a = s2 &&& 1085102592571150095 := ⟨_, rfl⟩
  obtain ⟨y4, hy4⟩ : ∃ a : Nat, a = y3 + y3 / 256 := ⟨_, rfl⟩
  obtain ⟨y5, hy5⟩ : ∃ a : Nat, a = y4 + y4 / 65536 := ⟨_, rfl⟩
  obtain ⟨y6, hy6⟩ : ∃ a : Nat, a = y5 + y5 / 4294967296 := ⟨_, rfl⟩
  have e1 : y1 = f1 16 x := by rw [hy1, ha1, hb1]; simp only [f1, hm5]
  have e2 : y2 = f2 16 x := by rw [hy2, ha2, hb2, e1]; simp only [f2, hm3]
  have e3 : y3 = f3 8 (f2 16 x) := by rw [hy3, hs2, e2]; simp only [f3, hmf]
  obtain ⟨hend, hl6⟩ := swar_end x y3 e3 y4 y5 y6 hy4 hy5 hy6
  have la1 : a1 ≤ 6148914691236517205 := by rw [ha1]; exact Nat.and_le_right
  have lb1 : b1 ≤ 6148914691236517205 := by rw [hb1]; exact Nat.and_le_right
  have la2 : a2 ≤ 3689348814741910323 := by rw [ha2]; exact Nat.and_le_right
  have lb2 : b2 ≤ 3689348814741910323 := by rw [hb2]; exact Nat.and_le_right
  have q1 : bits .and .u64 ((x : Int) / 2) 6148914691236517205 = (a1 : Int) := by
    rw [ha1, show ((x : Int) / 2) = ((x / 2 : Nat) : Int) by omega]; exact and_nat (x / 2) 6148914691236517205 (by omega) (by decide)
  have q2 : bits .and .u64 (x : Int) 6148914691236517205 = (b1 : Int) := by rw [hb1]; exact and_nat x 6148914691236517205 hx (by decide)
  have q3 : IntKind.u64.wrap ((a1 : Int) + (b1 : Int)) = (y1 : Int) := by rw [hy1]; exact wrap_add64 _ _ (by omega)
  have q4 : bits .and .u64 ((y1 : Int) / 4) 3689348814741910323 = (a2 : Int) := by
    rw [ha2, show ((y1 : Int) / 4) = ((y1 / 4 : Nat) : Int) by omega]; exact and_nat (y1 / 4) 3689348814741910323 (by omega) (by decide)
  have q5 : bits .and .u64 (y1 : Int) 3689348814741910323 = (b2 : Int) := by rw [hb2]; exact and_nat y1 3689348814741910323 (by omega) (by decide)
  have q6 : IntKind.u64.wrap ((a2 : Int) + (b2 : Int)) = (y2 : Int) := by rw [hy2]; exact wrap_add64 _ _ (by omega)
  have q7 : IntKind.u64.wrap ((y2 : Int) / 16 + (y2 : Int)) = (s2 : Int) := by
    rw [hs2, show ((y2 : Int) / 16) = ((y2 / 16 : Nat) : Int) by omega]; exact wrap_add64 _ _ (by omega)
  have q8 : bits .and .u64 (s2 : Int) 1085102592571150095 = (y3 : Int) := by rw [hy3]; exact and_nat s2 1085102592571150095 (by omega) (by decide)
  have q9 : IntKind.u64.wrap ((y3 : Int) + (y3 : Int) / 256) = (y4 : Int) := by
    rw [hy4, show ((y3 : Int) / 256) = ((y3 / 256 : Nat) : Int) by omega]; exact wrap_add64 _ _ (by omega)
  have q10 : IntKind.u64.wrap ((y4 : Int) + (y4 : Int) / 65536) = (y5 : Int) := by
    rw [hy5, show ((y4 : Int) / 65536) = ((y4 / 65536 : Nat) : Int) by omega]; exact wrap_add64 _ _ (by omega)
  have q11 : IntKind.u64.wrap ((y5 : Int) + (y5 : Int) / 4294967296) = (y6 : Int) := by
    rw [hy6, show ((y5 : Int) / 4294967296) = ((y5 / 4294967296 : Nat) : Int) by omega]; exact wrap_add64 _ _ (by omega)
  have ly3 : y3 ≤ 1085102592571150095 := by rw [hy3]; exact Nat.and_le_right
  have ly6 : y6 < 9223372036854775808 := by omega
  have q12 : wrap64 (y6 : Int) = (y6 : Int) := IntWalk.wrap64_in _ (by omega)
  have q13 : bits .and .i64 (y6 : Int) 127 = ((pop x 64 : Nat) : Int) := by
    rw [and_i64 y6 ly6, hend]
  generalize pop x 64 = r at *
  clear ly3 ly6 hm5 hm3 hmf e1 e2 e3 hend la1 lb1 la2 lb2 ha1 hb1 hy1 ha2 hb2 hy2 hs2 hy3 hy4 hy5 hy6
  go_enter Tryz.func218, Tryz.ntmps218
  go_wp2
  go_ret
  exact ⟨rfl, rfl⟩
theorem ctz_core (x k idx : Nat) (w : World) (hx0 : ((x : Int) == 0) = false)
    (key : IntKind.u64.wrap (bits BinOp.and IntKind.u64 (x : Int) (IntKind.u64.wrap (-(x : Int))) * 285870213051353865) / 288230376151711744 = (idx : Int))
    (hi : idx < 64) (hk : k < 64) (hcell : w.cell? ⟨11, idx, none⟩ = some (.int .u8 k)) :
    Calls Tryz.prog 173 #[.int .u64 x] w fun e w' => e = .returned (.int .i64 k) ∧ w' = w := by
  go_enter Tryz.func173, Tryz.ntmps173
  go_wp2_with (simp only [key])
  go_ret
  exact ⟨rfl, rfl⟩
theorem ctz_zero (w : World) : Calls Tryz.prog 173 #[.int .u64 0] w fun e w' => e = .returned (.int .i64 64) ∧ w' = w := by
  go_enter Tryz.func173, Tryz.ntmps173
  go_wp2
  go_ret
  exact ⟨rfl, rfl⟩
end Sb
end Go.Proofs.YtcbmfakjfoggaaaGreatDoor
