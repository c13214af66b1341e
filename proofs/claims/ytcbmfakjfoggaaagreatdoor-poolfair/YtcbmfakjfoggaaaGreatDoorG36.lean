/- A pool and its depot in one memory · The contract of errors.As at the target that package pool hands it (a pointer to a variable of type *lack): at a *lack. -/
import Derived.Test.YtcbmfakjfoggaaaGreatDoorG35
import Derived.Test.YtcbmfakjfoggaaaGreatDoorG00
import Derived.LaidEql
import Derived.Stop.Asserts
import Derived.RowKitTokens
namespace Go.Proofs.YtcbmfakjfoggaaaGreatDoor
open Go.RowKit Go.Maps
namespace Pl
open Fr Bd Zn Dz Sb Mg
/-- Others' maps, and the pool's as they stand. -/
def X2 (tm ym : Nat) (X : Nat → Option Obj) (w : World) : Nat → Option Obj := fun j => if j = tm ∨ j = ym then w.heap[j]? else X j
/-- A pool and its depot: others have rows of objects V, maps X. -/
structure PD (B : Nat) (C : Dc) (V : Nat → Prop) (X : Nat → Option Obj) (pb tm ym : Nat) (S : Ds) (P : Ps) (w : World) : Prop where
  k : DK C (fun j => V j ∨ OB P.vr j) (X2 tm ym X w) S w
  m : PLm B w pb C.d tm ym P
  nr : NR C.z C.k (OB P.vl) w
  dj : ∀ j, OB P.vr j → ¬ V j
  xt : X tm = none ∧ X ym = none
  hB : C.w0.heap.size ≤ B
/-- The kinds that a pool's acts leave as they are. -/
abbrev RKp : List TypeId := [252, 253, 38, 333, 291, 140, 302, 305, 4, 164, 185, 32, 258, 241, 64, 167, 189, 192, 90, 93, 91, 208, 209, 220, 205, 234, 237, 316, 51, 86, 114, 5, 9, 29, 147]
/-- What a pool's acts leave as it is. -/
structure PF (V : Nat → Prop) (P P' : Ps) (w w' : World) : Prop where
  v : ∀ k, V k → w'.heap[k]? = w.heap[k]?
  s : Same RKp w w'
  l : ∀ k, Tag w k 3 → ¬ OB P.vl k → w'.heap[k]? = w.heap[k]?
  z : w.heap.size ≤ w'.heap.size
  l' : ∀ j, OB P'.vl j → OB P.vl j ∨ w.heap.size ≤ j
  r' : ∀ j, OB P'.vr j → OB P.vr j ∨ w.heap.size ≤ j
theorem PF.refl (V : Nat → Prop) (P : Ps) (w : World) : PF V P P w w := ⟨fun _ _ => rfl, fun _ _ _ _ => rfl, fun _ _ _ => rfl, Nat.le_refl _, fun _ h => Or.inl h, fun _ h => Or.inl h⟩
theorem PF.below {V : Nat → Prop} {P : Ps} {w w' : World} (hV : ∀ k, V k → k < w.heap.size) (hb : Below w.heap.size w w') : PF V P P w w' := ⟨fun k hk => hb.block k (hV k hk), same_below hb, fun k hk _ => hb.block k hk.lt, hb.size, fun _ h => Or.inl h, fun _ h => Or.inl h⟩
theorem PF.trans {V : Nat → Prop} {P P1 P2 : Ps} {w w1 w2 : World} (h : PF V P P1 w w1) (k : PF V P1 P2 w1 w2) : PF V P P2 w w2 := by
  refine ⟨fun j hj => (k.v j hj).trans (h.v j hj), same_trans h.s k.s, fun j hj hn => ?_, Nat.le_trans h.z k.z, fun j hj => ?_, fun j hj => ?_⟩
  · have e := h.l j hj hn
    refine (k.l j (hj.blk e) (fun ho => ?_)).trans e
    rcases h.l' j ho with h1 | h1
    · exact hn h1
    · have := hj.lt; omega
  · rcases k.l' j hj with h1 | h1
    · exact h.l' j h1
    · exact Or.inr (Nat.le_trans h.z h1)
  · rcases k.r' j hj with h1 | h1
    · exact h.r' j h1
    · exact Or.inr (Nat.le_trans h.z h1)
theorem PF.mono {V V' : Nat → Prop} {P P' : Ps} {w w' : World} (h : PF V P P' w w') (hv : ∀ j, V' j → V j) : PF V' P P' w w' := ⟨fun k hk => h.v k (hv k hk), h.s, h.l, h.z, h.l', h.r'⟩
/-- A box of one's own is written. -/
theorem PF.box {V : Nat → Prop} {P P' : Ps} {w w' : World} (h : PF V P P' w w') (hV : ∀ k, V k → k < w.heap.size) {p : Nat} (hp : w.heap.size ≤ p) (o : Nat) (v : Value) : PF V P P' w (w'.setCell ⟨p, o, none⟩ v) :=
  ⟨fun k hk => (Below.heap_setCell _ _ _ _ (by have := hV k hk; simp only; omega)).trans (h.v k hk), fun b t hm ht => (Below.heap_setCell _ _ _ _ (by have := ht.lt; simp only; omega)).trans (h.s b t hm ht), fun k hk hn => (Below.heap_setCell _ _ _ _ (by have := hk.lt; simp only; omega)).trans (h.l k hk hn), Nat.le_trans h.z (by simp [World.setCell]), h.l', h.r'⟩
section
variable {B : Nat} {C : Dc} {V V' : Nat → Prop} {X : Nat → Option Obj} {pb tm ym : Nat} {S S' : Ds} {P P' : Ps} {w w' : World}
theorem X2_same (h1 : w'.heap[tm]? = w.heap[tm]?) (h2 : w'.heap[ym]? = w.heap[ym]?) : X2 tm ym X w' = X2 tm ym X w := by
  funext j
  unfold X2
  split
  · rename_i h
    rcases h with rfl | rfl
    · exact h1
    · exact h2
  · rfl
theorem PD.vlt (h : PD B C V X pb tm ym S P w) : ∀ k, V k → k < w.heap.size := fun k hk => (DQ.uk h.k k (Or.inl hk)).lt
theorem PD.vtag (h : PD B C V X pb tm ym S P w) : ∀ k, V k → Tag w k 34 := fun k hk => DQ.uk h.k k (Or.inl hk)
theorem PD.b (h : PD B C V X pb tm ym S P w) (hb : Below w.heap.size w w') : PD B C V X pb tm ym S P w' := by
  have e := X2_same (X := X) (hb.block tm h.m.t.lt) (hb.block ym h.m.y.lt)
  exact ⟨by rw [e]; exact h.k.b hb, h.m.b hb, h.nr.keep h.k.dz (same_below hb) (fun j hj => Or.inl hj), h.dj, h.xt, h.hB⟩
theorem PD.fb (h : PD B C V X pb tm ym S P w) (hb : Below w.heap.size w w') : PF V P P w w' := PF.below h.vlt hb
theorem PD.more (h : PD B C V X pb tm ym S P w) (hb : Below w.heap.size w w') {b : Nat} (hw : w.heap.size ≤ b) (ht : Tag w' b 34) : PD B C (fun j => V j ∨ j = b) X pb tm ym S P w' := by
  have h1 := h.b hb
  have e := X2_same (X := X) (hb.block tm h.m.t.lt) (hb.block ym h.m.y.lt)
  have h2 := DQ.more h.k hb hw ht
  refine ⟨?_, h1.m, h1.nr, fun j hj hv => ?_, h.xt, h.hB⟩
  · rw [e]
    exact DQ.less h2 (fun j hj => by
      rcases hj with (h3 | h3) | h3
      · exact Or.inl (Or.inl h3)
      · exact Or.inr h3
      · exact Or.inl (Or.inr h3))
  · rcases hv with hv | rfl
    · exact h.dj j hj hv
    · have := (ob_tag h.m.r hj).1.lt; omega
theorem PD.less (h : PD B C V X pb tm ym S P w) (hv : ∀ j, V' j → V j) : PD B C V' X pb tm ym S P w := ⟨DQ.less h.k (fun j hj => hj.imp (hv j) id), h.m, h.nr, fun j hj hj' => h.dj j hj (hv j hj'), h.xt, h.hB⟩
theorem PD.setV (h : PD B C V X pb tm ym S P w) {b : Nat} (hb : V b) (o : Nat) (v : Value) : PD B C V X pb tm ym S P (w.setCell ⟨b, o, none⟩ v) := by
  have ht := h.vtag b hb
  have hn : ¬ OB P.vr b := fun e => h.dj b e hb
  have hs : ∀ j, j ≠ b → (w.setCell ⟨b, o, none⟩ v).heap[j]? = w.heap[j]? := fun j hj => Below.heap_setCell _ _ _ _ hj
  have e := X2_same (X := X) (hs tm (by obtain ⟨o, e1, e2⟩ := h.m.t.kindless; exact kindless_ne e1 e2 ht)) (hs ym (by obtain ⟨o, e1, e2⟩ := h.m.y.kindless; exact kindless_ne e1 e2 ht))
  exact ⟨by rw [e]; exact DQ.setU h.k (Or.inl hb) o v, h.m.box ht hn o v, h.nr.keep h.k.dz (fun c t hm hc => hs c (hc.ne ht (fun e => by subst e; simp at hm))) (fun j hj => Or.inl hj), h.dj, h.xt, h.hB⟩
/-- The depot turns. -/
theorem PD.turn (h : PD B C V X pb tm ym S P w) (hk : DK C (fun j => V j ∨ OB P.vr j) (X2 tm ym X w) S' w') (hu : UK (fun j => V j ∨ OB P.vr j) w w') : PD B C V X pb tm ym S' P w' ∧ PF V P P w w' := by
  have hm : ∀ b, b = tm ∨ b = ym → w'.heap[b]? = w.heap[b]? := fun b hb => by
    obtain ⟨o, ho⟩ : ∃ o, w.heap[b]? = some o := by
      rcases hb with rfl | rfl
      · obtain ⟨o, e1, _⟩ := h.m.t.kindless; exact ⟨o, e1⟩
      · obtain ⟨o, e1, _⟩ := h.m.y.kindless; exact ⟨o, e1⟩
    have : X2 tm ym X w b = some o := by unfold X2; rw [if_pos hb, ho]
    rw [(hk.map this).1, ho]
  have e := X2_same (X := X) (hm tm (Or.inl rfl)) (hm ym (Or.inr rfl))
  refine ⟨⟨by rw [e]; exact hk, h.m.keep fun b hb => ?_, h.nr.keep h.k.dz (fun c t hm hc => hu.s c t (by simp at hm; rcases hm with rfl | rfl <;> simp) hc) (fun j hj => Or.inl hj), h.dj, h.xt, h.hB⟩, ⟨fun k hk => hu.u k (Or.inl hk), fun c t hm hc => hu.s c t ((show ∀ t ∈ RKp, t ∈ RK by decide) t hm) hc, fun k hk _ => hu.s k 3 (by simp) hk, hu.z, fun _ h => Or.inl h, fun _ h => Or.inl h⟩⟩
  rcases hb with rfl | hb | hb | hb | hb
  · exact hu.s b 144 (by simp) h.m.tg
  · exact hm b (Or.inl hb)
  · exact hm b (Or.inr hb)
  · exact hu.u b (Or.inr hb)
  · exact hu.s b 3 (by simp) (ob_tag h.m.l hb).1
/-- The pool alone turns. -/
theorem PD.own (h : PD B C V X pb tm ym S P w) (hm : PLm B w' pb C.d tm ym P') (hk : Kp (PB pb tm ym P) w w') (hr : ∀ j, OB P'.vr j → OB P.vr j ∨ w.heap.size ≤ j) (hl : ∀ j, OB P'.vl j → OB P.vl j ∨ w.heap.size ≤ j) : PD B C V X pb tm ym S P' w' ∧ PF V P P' w w' := by
  have hlt := fun b (hb : PB pb tm ym P b) => h.m.lt hb
  have hno : ∀ c t, Tag w c t → t ≠ 144 → t ≠ 34 → t ≠ 3 → ¬ PB pb tm ym P c := fun c t hc n1 n2 n3 hb => by
    rcases hb with rfl | rfl | rfl | hb | hb
    · exact hc.ne h.m.tg n1 rfl
    · obtain ⟨o, e1, e2⟩ := h.m.t.kindless; exact kindless_ne e1 e2 hc rfl
    · obtain ⟨o, e1, e2⟩ := h.m.y.kindless; exact kindless_ne e1 e2 hc rfl
    · exact hc.ne (ob_tag h.m.r hb).1 n2 rfl
    · exact hc.ne (ob_tag h.m.l hb).1 n3 rfl
  have hvn : ∀ k, V k → ¬ PB pb tm ym P k := fun k hk hb => by
    have ht := h.vtag k hk
    rcases hb with rfl | rfl | rfl | hb | hb
    · exact ht.ne h.m.tg (by decide) rfl
    · obtain ⟨o, e1, e2⟩ := h.m.t.kindless; exact kindless_ne e1 e2 ht rfl
    · obtain ⟨o, e1, e2⟩ := h.m.y.kindless; exact kindless_ne e1 e2 ht rfl
    · exact h.dj k hb hk
    · exact ht.ne (ob_tag h.m.l hb).1 (by decide) rfl
  have hnr : NR C.z C.k (PB pb tm ym P) w := fun g c i h' d e1 e2 hi hb => by
    obtain ⟨g2, c2, rows, e3, o2, r2⟩ := h.k.dz.cf
    rw [e3] at e1
    simp only [Option.some.injEq, Value.slice.injEq, Addr.mk.injEq, and_true, true_and] at e1
    obtain ⟨rfl, rfl⟩ := e1
    obtain ⟨h2, d2, e4, o3⟩ := r2 i hi
    rw [(o2.cellAt i (by omega)).trans e4] at e2
    simp only [Option.some.injEq, Value.slice.injEq, Addr.mk.injEq, and_true, true_and] at e2
    obtain ⟨rfl, rfl⟩ := e2
    have ht : Tag w h2 3 := own_tag o3
    rcases hb with rfl | rfl | rfl | hb | hb
    · exact ht.ne h.m.tg (by decide) rfl
    · obtain ⟨o, e1, e2⟩ := h.m.t.kindless; exact kindless_ne e1 e2 ht rfl
    · obtain ⟨o, e1, e2⟩ := h.m.y.kindless; exact kindless_ne e1 e2 ht rfl
    · exact ht.ne (ob_tag h.m.r hb).1 (by decide) rfl
    · exact h.nr g2 c2 i h2 d2 e3 ((o2.cellAt i (by omega)).trans e4) hi hb
  have hX : ∀ b o, X b = some o → ¬ PB pb tm ym P b := fun b o e hb => by
    have hx2 : X2 tm ym X w b = some o := by
      unfold X2
      rw [if_neg, e]
      rintro (rfl | rfl)
      · rw [h.xt.1] at e; cases e
      · rw [h.xt.2] at e; cases e
    obtain ⟨e1, e2⟩ := h.k.map hx2
    rcases hb with rfl | rfl | rfl | hb | hb
    · exact kindless_ne e1 e2 h.m.tg rfl
    · rw [h.xt.1] at e; cases e
    · rw [h.xt.2] at e; cases e
    · exact kindless_ne e1 e2 (ob_tag h.m.r hb).1 rfl
    · exact kindless_ne e1 e2 (ob_tag h.m.l hb).1 rfl
  refine ⟨⟨h.k.oth hk hnr (fun b hb => Nat.le_trans h.hB (hlt b hb).2) (fun b hb => ?_) (fun b o e => ?_) (fun j hj => ?_), hm, (h.nr.keep h.k.dz (fun c t hm' hc => hk.blk c hc.lt (hno c t hc (by rintro rfl; simp at hm') (by rintro rfl; simp at hm') (by rintro rfl; simp at hm'))) hl), fun j hj hv => ?_, h.xt, h.hB⟩, ⟨fun k hk' => hk.blk k (h.vlt k hk') (hvn k hk'), fun c t hm' hc => hk.blk c hc.lt (hno c t hc (by rintro rfl; simp at hm') (by rintro rfl; simp at hm') (by rintro rfl; simp at hm')), fun k hk' hn => hk.blk k hk'.lt (fun hb => ?_), hk.size, hl, hr⟩⟩
  · rcases hb with rfl | rfl | rfl | hb | hb
    · exact Or.inr (Or.inr ⟨144, h.m.tg, by decide, by decide⟩)
    · obtain ⟨o, e1, e2⟩ := h.m.t.kindless
      exact Or.inr (Or.inl ⟨o, by unfold X2; rw [if_pos (Or.inl rfl), e1]⟩)
    · obtain ⟨o, e1, e2⟩ := h.m.y.kindless
      exact Or.inr (Or.inl ⟨o, by unfold X2; rw [if_pos (Or.inr rfl), e1]⟩)
    · exact Or.inl (Or.inr hb)
    · exact Or.inr (Or.inr ⟨3, (ob_tag h.m.l hb).1, by decide, by decide⟩)
  · unfold X2 at e
    by_cases hb : b = tm ∨ b = ym
    · rw [if_pos hb] at e
      refine ⟨e, ?_, Or.inl ?_⟩
      · rcases hb with rfl | rfl
        · obtain ⟨o', e1, e2⟩ := hm.t.kindless; rw [e1] at e; rw [← Option.some.inj e]; exact e2
        · obtain ⟨o', e1, e2⟩ := hm.y.kindless; rw [e1] at e; rw [← Option.some.inj e]; exact e2
      · rcases hb with rfl | rfl
        · obtain ⟨o', e1, e2⟩ := h.m.t.kindless; exact ⟨o', by unfold X2; rw [if_pos (Or.inl rfl), e1]⟩
        · obtain ⟨o', e1, e2⟩ := h.m.y.kindless; exact ⟨o', by unfold X2; rw [if_pos (Or.inr rfl), e1]⟩
    · rw [if_neg hb] at e
      have hx2 : X2 tm ym X w b = some o := by unfold X2; rw [if_neg hb, e]
      obtain ⟨e1, e2⟩ := h.k.map hx2
      exact ⟨(hk.blk b (Array.getElem?_eq_some_iff.mp e1).1 (hX b o e)).trans e1, e2, Or.inl ⟨o, hx2⟩⟩
  · rcases hj with hj | hj
    · exact ⟨(h.vtag j hj).blk (hk.blk j (h.vlt j hj) (hvn j hj)), Or.inl (Or.inl hj)⟩
    · refine ⟨(ob_tag hm.r hj).1, ?_⟩
      rcases hr j hj with e | e
      · exact Or.inl (Or.inr e)
      · exact Or.inr e
  · rcases hr j hj with e | e
    · exact h.dj j e hv
    · have := h.vlt j hv; omega
  · rcases hb with rfl | rfl | rfl | hb | hb
    · exact hk'.ne h.m.tg (by decide) rfl
    · obtain ⟨o, e1, e2⟩ := h.m.t.kindless; exact kindless_ne e1 e2 hk' rfl
    · obtain ⟨o, e1, e2⟩ := h.m.y.kindless; exact kindless_ne e1 e2 hk' rfl
    · exact hk'.ne (ob_tag h.m.r hb).1 (by decide) rfl
    · exact hn hb
/-- A block of one's own, of another kind, turns. -/
theorem PD.far (h : PD B C V X pb tm ym S P w) {t : Nat} {κ : TypeId} (hk : Kp (fun b => b = t) w w') (ht : Tag w t κ) (h0 : C.w0.heap.size ≤ t) (n1 : κ ≠ 34) (n2 : κ ∉ DKK) (n3 : κ ≠ 144) (n4 : κ ≠ 3) : PD B C V X pb tm ym S P w' := by
  have hs : ∀ j, j < w.heap.size → j ≠ t → w'.heap[j]? = w.heap[j]? := fun j hj hn => hk.blk j hj hn
  have hpb : ∀ b, PB pb tm ym P b → b ≠ t := fun b hb => by
    rcases hb with rfl | rfl | rfl | hb | hb
    · exact h.m.tg.ne ht n3.symm
    · obtain ⟨o, e1, e2⟩ := h.m.t.kindless; exact kindless_ne e1 e2 ht
    · obtain ⟨o, e1, e2⟩ := h.m.y.kindless; exact kindless_ne e1 e2 ht
    · exact (ob_tag h.m.r hb).1.ne ht n1.symm
    · exact (ob_tag h.m.l hb).1.ne ht n4.symm
  have e := X2_same (X := X) (hs tm h.m.t.lt (hpb tm (Or.inr (Or.inl rfl)))) (hs ym h.m.y.lt (hpb ym (Or.inr (Or.inr (Or.inl rfl)))))
  have hK : DK C (fun j => V j ∨ OB P.vr j) (X2 tm ym X w) S w' := by
    refine h.k.oth hk ?_ (fun b hb => by subst hb; exact h0) (fun b hb => by subst hb; exact Or.inr (Or.inr ⟨κ, ht, n1, n2⟩)) (fun b o e => ?_) (fun j hj => ?_)
    · rintro g c i h' d e1 e2 hi rfl
      obtain ⟨g2, c2, rows, e3, o2, r2⟩ := h.k.dz.cf
      rw [e3] at e1
      simp only [Option.some.injEq, Value.slice.injEq, Addr.mk.injEq, and_true, true_and] at e1
      obtain ⟨rfl, rfl⟩ := e1
      obtain ⟨h2, d2, e4, o3⟩ := r2 i hi
      rw [(o2.cellAt i (by omega)).trans e4] at e2
      simp only [Option.some.injEq, Value.slice.injEq, Addr.mk.injEq, and_true, true_and] at e2
      obtain ⟨rfl, rfl⟩ := e2
      exact (own_tag o3).ne ht n4.symm rfl
    · obtain ⟨e1, e2⟩ := h.k.map e
      exact ⟨(hs b (Array.getElem?_eq_some_iff.mp e1).1 (kindless_ne e1 e2 ht)).trans e1, e2, Or.inl ⟨o, e⟩⟩
    · have hj' := DQ.uk h.k j hj
      exact ⟨hj'.blk (hs j hj'.lt (hj'.ne ht n1.symm)), Or.inl hj⟩
  exact ⟨by rw [e]; exact hK, h.m.keep fun b hb => hs b (h.m.lt hb).1 (hpb b hb), h.nr.keep h.k.dz (fun c t' hm hc => hs c hc.lt (hc.ne ht (fun e => n2 (by subst e; simp at hm; rcases hm with rfl | rfl <;> simp)))) (fun j hj => Or.inl hj), h.dj, h.xt, h.hB⟩
theorem PF.fresh (h : PF V P P' w w') (hV : ∀ k, V k → k < w.heap.size) {w2 : World} {t : Nat} (hk : Kp (fun b => b = t) w' w2) (ht : w.heap.size ≤ t) : PF V P P' w w2 :=
  ⟨fun k hk' => (hk.blk k (Nat.lt_of_lt_of_le (hV k hk') h.z) (by have := hV k hk'; omega)).trans (h.v k hk'), fun b t' hm hb => (hk.blk b (Nat.lt_of_lt_of_le hb.lt h.z) (by have := hb.lt; omega)).trans (h.s b t' hm hb), fun k hk' hn => (hk.blk k (Nat.lt_of_lt_of_le hk'.lt h.z) (by have := hk'.lt; omega)).trans (h.l k hk' hn), Nat.le_trans h.z hk.size, h.l', h.r'⟩
end
end Pl
end Go.Proofs.YtcbmfakjfoggaaaGreatDoor
namespace Go.Proofs.YtcbmfakjfoggaaaGreatDoor
open Go.RowKit Go.Extern.Stop Go.Stop Go.Extern

namespace Pl
/-! Closed facts on the model's entries for internal/reflectlite, at *pool.lack and **pool.lack. -/
theorem rl_valueOf59 (t : Addr) (w : World) : (ReflectliteValue.unpack (.iface 149 (.pointer (some t)))).run Tryz.prog w
    = .ok (.agg #[.pointer (some ⟨12, 149, none⟩), .pointer (some ⟨w.heap.size, 0, none⟩), .int .u64 150]) (w.alloc (.cells #[.pointer (some t)] 149)) := by kernel_rfl
theorem rl_type59 (a : Addr) (w : World) : (ReflectliteValue.methodAny (ReflectliteValue.valueError "reflectlite.Value.Type" 0) (fun t _ _ _ => ReflectliteType.toType t) #[.agg #[.pointer (some ⟨12, 149, none⟩), .pointer (some a), .int .u64 150]]).run Tryz.prog w
    = .ok (.iface 342 (.agg #[.pointer (some ⟨12, 149, none⟩)])) w := by kernel_rfl
theorem rl_methodKind (h : Value) (w : World) : (Go.method 554 342 (.agg #[h]) "Kind").run Tryz.prog w = .ok (315, h) w := by kernel_rfl
theorem rl_kind59 (w : World) : ((ReflectliteType.abiMethod fun t => (fun a : Nat => Value.int IntKind.u8 (a : Int)) <$> Rtype.kind t) #[.pointer (some ⟨12, 149, none⟩)]).run Tryz.prog w = .ok (.int .u8 22) w := by kernel_rfl
theorem rl_kind29 (w : World) : ((ReflectliteType.abiMethod fun t => (fun a : Nat => Value.int IntKind.u8 (a : Int)) <$> Rtype.kind t) #[.pointer (some ⟨12, 147, none⟩)]).run Tryz.prog w = .ok (.int .u8 22) w := by kernel_rfl
theorem rl_rlm (z : Sem Value) (f : TypeId → Addr → Nat → Nat → Sem Value) (v : Value) :
    ReflectliteValue.method z f #[v] = (do match ← ReflectliteValue.parts v with | none => z | some (t, a, fl) => f t a fl (fl % 32)) := rfl
theorem rl_parts59 (a : Addr) (w : World) : (ReflectliteValue.parts (.agg #[.pointer (some ⟨12, 149, none⟩), .pointer (some a), .int .u64 150])).run Tryz.prog w = .ok (some (149, a, 150)) w := by kernel_rfl
theorem rl_isNil59 (a p : Addr) (W : World) (ha : W.cell? a = some (.pointer (some p))) :
    (ReflectliteValue.method (ReflectliteValue.valueError "reflectlite.Value.IsNil" 0) ReflectliteValue.isNil #[.agg #[.pointer (some ⟨12, 149, none⟩), .pointer (some a), .int .u64 150]]).run Tryz.prog W = .ok (.bool false) W := by
  rw [rl_rlm]
  simp only [Sem.run_bind, rl_parts59, Result.andThen]
  simp [ReflectliteValue.isNil, loadVar, isAgg, underlying, Tryz.underlying149, ha, Result.andThen]
theorem rl_methodElem (h : Value) (w : World) : (Go.method 554 342 (.agg #[h]) "Elem").run Tryz.prog w = .ok (332, .agg #[h]) w := by kernel_rfl
theorem rl_methodImplements (h : Value) (w : World) : (Go.method 554 342 (.agg #[h]) "Implements").run Tryz.prog w = .ok (333, .agg #[h]) w := by kernel_rfl
theorem rl_methodAssignableTo (h : Value) (w : World) : (Go.method 554 342 (.agg #[h]) "AssignableTo").run Tryz.prog w = .ok (330, .agg #[h]) w := by kernel_rfl
theorem rl_elem59 (w : World) : (ReflectliteType.method ReflectliteType.elem #[.agg #[.pointer (some ⟨12, 149, none⟩)]]).run Tryz.prog w = .ok (.iface 342 (.agg #[.pointer (some ⟨12, 147, none⟩)])) w := by kernel_rfl
theorem rl_implements29 (w : World) : (ReflectliteType.relation "Implements" ReflectliteType.implements_ #[.agg #[.pointer (some ⟨12, 147, none⟩)], .iface 342 (.agg #[.pointer (some ⟨12, 29, none⟩)])]).run Tryz.prog w = .ok (.bool true) w := by kernel_rfl
theorem rl_typeOf29 (v : Value) (w : World) : (ReflectliteType.typeOf #[.iface 147 v]).run Tryz.prog w = .ok (.iface 342 (.agg #[.pointer (some ⟨12, 147, none⟩)])) w := by kernel_rfl
theorem rl_assignable29 (w : World) : (ReflectliteType.relation "AssignableTo" ReflectliteType.assignableTo #[.agg #[.pointer (some ⟨12, 147, none⟩)], .iface 342 (.agg #[.pointer (some ⟨12, 147, none⟩)])]).run Tryz.prog w = .ok (.bool true) w := by kernel_rfl
theorem rl_valueOf29 (e : Addr) (w : World) : (ReflectliteValue.unpack (.iface 147 (.pointer (some e)))).run Tryz.prog w
    = .ok (.agg #[.pointer (some ⟨12, 147, none⟩), .pointer (some ⟨w.heap.size, 0, none⟩), .int .u64 150]) (w.alloc (.cells #[.pointer (some e)] 147)) := by kernel_rfl
theorem rl_elemOf59 (w : World) : (Rtype.elem? 149).run Tryz.prog w = .ok (some 147) w := by kernel_rfl
theorem rl_mk29 (p : Addr) (w : World) : (ReflectliteValue.mk 147 p ReflectliteValue.flagAddr).run Tryz.prog w = .ok (.agg #[.pointer (some ⟨12, 147, none⟩), .pointer (some p), .int .u64 406]) w := by kernel_rfl
theorem rl_elemV59 (a p : Addr) (W : World) (ha : W.cell? a = some (.pointer (some p))) :
    (ReflectliteValue.method (ReflectliteValue.valueError "reflectlite.Value.Elem" 0) ReflectliteValue.elem #[.agg #[.pointer (some ⟨12, 149, none⟩), .pointer (some a), .int .u64 150]]).run Tryz.prog W
      = .ok (.agg #[.pointer (some ⟨12, 147, none⟩), .pointer (some p), .int .u64 406]) W := by
  rw [rl_rlm]
  simp only [Sem.run_bind, rl_parts59, Result.andThen]
  simp [ReflectliteValue.elem, loadVar, isAgg, underlying, Tryz.underlying149, ha, Result.andThen, rl_elemOf59, rl_mk29]
theorem rl_rls (v x : Value) : ReflectliteValue.set #[v, x] = (do
    let (some (dst, a, fl), some (src, b, _)) := (← ReflectliteValue.parts v, ← ReflectliteValue.parts x)
      | unsupported (.noEntry "extern/(internal/reflectlite.Value).Set.zeroValue")
    if fl / ReflectliteValue.flagAddr % 2 == 0 then unsupported (.noEntry "extern/(internal/reflectlite.Value).Set.unaddressable")
    let val ← loadVar src b
    if ← Rtype.directlyAssignable dst src then storeVar dst a val
    else if ← Rtype.implements dst src then
      if (← Rtype.kind src) == 20 then
        match val with
        | .nilIface => unsupported (.noEntry "extern/reflectlite: a nil value of one interface type handed on as a value of another")
        | _ => storeVar dst a val
      else storeVar dst a (.iface src val)
    else panicString ("reflectlite.Set: value of type " ++ (← Rtype.spelt src) ++ " is not assignable to type " ++ (← Rtype.spelt dst))
    pure (.tuple #[])) := rfl
theorem rl_parts29a (a : Addr) (w : World) : (ReflectliteValue.parts (.agg #[.pointer (some ⟨12, 147, none⟩), .pointer (some a), .int .u64 406])).run Tryz.prog w = .ok (some (147, a, 406)) w := by kernel_rfl
theorem rl_parts29 (a : Addr) (w : World) : (ReflectliteValue.parts (.agg #[.pointer (some ⟨12, 147, none⟩), .pointer (some a), .int .u64 150])).run Tryz.prog w = .ok (some (147, a, 150)) w := by kernel_rfl
theorem rl_direct29 (w : World) : (Rtype.directlyAssignable 147 147).run Tryz.prog w = .ok true w := by kernel_rfl
theorem rl_set29 (ta b e : Addr) (old : Value) (W : World) (hb : W.cell? b = some (.pointer (some e))) (ht : W.cell? ta = some old) (hf : W.frozen? ta = false) :
    (ReflectliteValue.set #[.agg #[.pointer (some ⟨12, 147, none⟩), .pointer (some ta), .int .u64 406], .agg #[.pointer (some ⟨12, 147, none⟩), .pointer (some b), .int .u64 150]]).run Tryz.prog W
      = .ok (.tuple #[]) (W.setCell ta (.pointer (some e))) := by
  rw [rl_rls]
  simp only [Sem.run_bind, rl_parts29a, rl_parts29, Result.andThen]
  simp [ReflectliteValue.flagAddr, loadVar, isAgg, underlying, Tryz.underlying147, hb, Result.andThen, rl_direct29, storeVar, Value.cells, storeCells, Addr.add]
  rw [run_store Tryz.prog W ta _ _ (by rfl)]
  simp [ht, hf]

set_option maxHeartbeats 4000000 in
theorem as_hit (e t : Addr) (old : Value) (w : World) (hg : w.cell? ⟨9, 0, none⟩ = some (.iface 342 (.agg #[.pointer (some ⟨12, 29, none⟩)]))) (ht0 : w.cell? t = some old) (hf0 : w.frozen? t = false) :
    Calls Tryz.prog 76 #[.iface 147 (.pointer (some e)), .iface 149 (.pointer (some t))] w fun ev w' => ev = .returned (.bool true) ∧ w' = ((((w.alloc (.cells #[.pointer (some t)] 149)).alloc (.cells #[.pointer (some ⟨12, 149, none⟩), .pointer (some ⟨w.heap.size, 0, none⟩), .int .u64 150] 262)).alloc (.cells #[.pointer (some ⟨12, 149, none⟩), .pointer (some ⟨w.heap.size, 0, none⟩), .int .u64 150] 262)).alloc (.cells #[.pointer (some e)] 147)).setCell t (.pointer (some e)) := by
  have h6 := @run_callFunc_extern Tryz.prog 151 _ (fun args => ReflectliteValue.unpack (args.getD 0 (.tuple #[]))) Tryz.func151 (by kernel_rfl) (by kernel_rfl) (by kernel_rfl) (by kernel_rfl)
  have h7 := @run_callFunc_extern Tryz.prog 152 _ (ReflectliteValue.methodAny (ReflectliteValue.valueError "reflectlite.Value.Type" 0) (fun t _ _ _ => ReflectliteType.toType t)) Tryz.func152 (by kernel_rfl) (by kernel_rfl) (by kernel_rfl) (by kernel_rfl)
  have h8 := @run_callFunc_extern Tryz.prog 153 _ (ReflectliteValue.method (ReflectliteValue.valueError "reflectlite.Value.IsNil" 0) ReflectliteValue.isNil) Tryz.func153 (by kernel_rfl) (by kernel_rfl) (by kernel_rfl) (by kernel_rfl)
  have h27 := @run_callFunc_extern Tryz.prog 315 _ (ReflectliteType.abiMethod fun t => do pure (.int .u8 (← Rtype.kind t))) Tryz.func315 (by kernel_rfl) (by kernel_rfl) (by kernel_rfl) (by kernel_rfl)
  have h37 := @run_callFunc_extern Tryz.prog 332 _ (ReflectliteType.method ReflectliteType.elem) Tryz.func332 (by kernel_rfl) (by kernel_rfl) (by kernel_rfl) (by kernel_rfl)
  have h38 := @run_callFunc_extern Tryz.prog 333 _ (ReflectliteType.relation "Implements" ReflectliteType.implements_) Tryz.func333 (by kernel_rfl) (by kernel_rfl) (by kernel_rfl) (by kernel_rfl)
  have h10 := @run_callFunc_extern Tryz.prog 205 _ ReflectliteType.typeOf Tryz.func205 (by kernel_rfl) (by kernel_rfl) (by kernel_rfl) (by kernel_rfl)
  have h35 := @run_callFunc_extern Tryz.prog 330 _ (ReflectliteType.relation "AssignableTo" ReflectliteType.assignableTo) Tryz.func330 (by kernel_rfl) (by kernel_rfl) (by kernel_rfl) (by kernel_rfl)
  have h11 := @run_callFunc_extern Tryz.prog 207 _ (ReflectliteValue.method (ReflectliteValue.valueError "reflectlite.Value.Elem" 0) ReflectliteValue.elem) Tryz.func207 (by kernel_rfl) (by kernel_rfl) (by kernel_rfl) (by kernel_rfl)
  have h12 := @run_callFunc_extern Tryz.prog 208 _ ReflectliteValue.set Tryz.func208 (by kernel_rfl) (by kernel_rfl) (by kernel_rfl) (by kernel_rfl)
  have tO := rl_typeOf29
  have mA := rl_methodAssignableTo
  have a25 := rl_assignable29
  have v25 := rl_valueOf29
  have f6 := rl_valueOf59
  have f7 := rl_type59
  have mK := rl_methodKind
  have mE := rl_methodElem
  have mI := rl_methodImplements
  have k27 := rl_kind59
  have k25 := rl_kind29
  have e27 := rl_elem59
  have i25 := rl_implements29
  have n8 := rl_isNil59 ⟨w.heap.size, 0, none⟩ t ((w.alloc (.cells #[.pointer (some t)] 149)).alloc (.cells #[.pointer (some ⟨12, 149, none⟩), .pointer (some ⟨w.heap.size, 0, none⟩), .int .u64 150] 262)) (by simp)
  have hlt := cell_lt hg
  simp only at hlt
  have hg2 : ((w.alloc (.cells #[.pointer (some t)] 149)).alloc (.cells #[.pointer (some ⟨12, 149, none⟩), .pointer (some ⟨w.heap.size, 0, none⟩), .int .u64 150] 262)).cell? ⟨9, 0, none⟩ = some (.iface 342 (.agg #[.pointer (some ⟨12, 29, none⟩)])) := by
    rw [World.cell?_alloc_lt _ _ ⟨9, 0, none⟩ (by simp; omega), World.cell?_alloc_lt _ _ ⟨9, 0, none⟩ hlt]; exact hg
  have htl : t.block < w.heap.size := by
    rcases Nat.lt_or_ge t.block w.heap.size with h | h
    · exact h
    · simp [World.cell?, Array.getElem?_eq_none h] at ht0
  have el := rl_elemV59 ⟨w.heap.size, 0, none⟩ t (((w.alloc (.cells #[.pointer (some t)] 149)).alloc (.cells #[.pointer (some ⟨12, 149, none⟩), .pointer (some ⟨w.heap.size, 0, none⟩), .int .u64 150] 262)).alloc (.cells #[.pointer (some ⟨12, 149, none⟩), .pointer (some ⟨w.heap.size, 0, none⟩), .int .u64 150] 262)) (by rw [World.cell?_alloc_lt _ _ ⟨w.heap.size, 0, none⟩ (by simp; omega)]; simp)
  have st := rl_set29 t ⟨w.heap.size + 1 + 1 + 1, 0, none⟩ e old ((((w.alloc (.cells #[.pointer (some t)] 149)).alloc (.cells #[.pointer (some ⟨12, 149, none⟩), .pointer (some ⟨w.heap.size, 0, none⟩), .int .u64 150] 262)).alloc (.cells #[.pointer (some ⟨12, 149, none⟩), .pointer (some ⟨w.heap.size, 0, none⟩), .int .u64 150] 262)).alloc (.cells #[.pointer (some e)] 147))
    (by rw [World.cell?_alloc_at _ _ _ _ (by simp)]; rfl)
    (by rw [World.cell?_alloc_lt _ _ t (by simp; omega), World.cell?_alloc_lt _ _ t (by simp; omega), World.cell?_alloc_lt _ _ t (by simp; omega), World.cell?_alloc_lt _ _ t htl]; exact ht0)
    (by rw [World.frozen?_alloc_old _ _ t (by simp; omega), World.frozen?_alloc_old _ _ t (by simp; omega), World.frozen?_alloc_old _ _ t (by simp; omega), World.frozen?_alloc_old _ _ t (Nat.ne_of_lt htl)]; exact hf0)
  go_enter Tryz.func76, Tryz.ntmps76
  go_wp2
  refine wp_loop_rounds 1 ?_
  rw [rounds_succ]
  go_wp2
  go_ret
  exact ⟨rfl, rfl⟩

end Pl
end Go.Proofs.YtcbmfakjfoggaaaGreatDoor
