/- The document's answer's own Split, where it splits · Each act on both: what the package does and what the document's answer does, side by side · Package zone's Give, Low, Lack, Node, Order by contract. -/
import Derived.Test.YtfefehkapffljaaGreatDoorGI
import Derived.Deep.DrawnRows
import Derived.Test.YtfefehkapffljaaGreatDoorGS
import Derived.Test.YtfefehkapffljaaGreatDoorGB
import Derived.Test.YtfefehkapffljaaGreatDoorGT
import Derived.Test.YtfefehkapffljaaGreatDoorGR
import Derived.BigQuiet
import Derived.Deep.RegionHeld3
namespace Go.Proofs.YtfefehkapffljaaGreatDoor
open Go.RowKit
attribute [local go_sem ↓] Go.wp_at_zero Go.wp_at_succ
namespace Bd
open Fr
end Bd
end Go.Proofs.YtfefehkapffljaaGreatDoor
namespace Go.Proofs.YtfefehkapffljaaGreatDoor
open Go.RowKit Go.Maps
namespace Bd
open Fr
theorem Row.kk {A B : Nat} {w w' : World} {g : Nat} {R LA LB : List Bl} (h : Row w g R) (hne : R ≠ []) (hA : Mp w A LA) (hB : Mp w B LB) (hk : Kept A B w w') : Row w' g R := by
  have c0 := (h.c 0 (List.length_pos_iff.2 hne)).1
  have e := hk.block g h.lt (ne_map c0 hA) (ne_map c0 hB)
  exact ⟨fun i hi => ⟨(World.cell?_of_block (w := w) e).trans (h.c i hi).1, (World.cell?_of_block (w := w) e).trans (h.c i hi).2⟩, fun o ho => (World.frozen?_of_block (w := w) e).trans (h.fz o ho), Nat.lt_of_lt_of_le h.lt hk.size⟩
theorem Tag.kk {A B : Nat} {w w' : World} {g : Nat} {t : TypeId} {LA LB : List Bl} (h : Tag w g t) (hA : Mp w A LA) (hB : Mp w B LB) (hk : Kept A B w w') : Tag w' g t := by
  have hl := h.lt
  obtain ⟨cur, fz, e⟩ := h
  have ne : ∀ (X : Nat) (LX : List Bl), Mp w X LX → g ≠ X := by
    rintro X LX hX rfl
    obtain ⟨⟨es, clock, h1, _⟩, _, _⟩ := hX
    rw [e] at h1; cases h1
  exact ⟨cur, fz, (hk.block g hl (ne A LA hA) (ne B LB hB)).trans e⟩
theorem Rowt.kk {A B : Nat} {w w' : World} {g : Nat} {R LA LB : List Bl} (h : Rowt w g R) (hne : R ≠ []) (hA : Mp w A LA) (hB : Mp w B LB) (hk : Kept A B w w') : Rowt w' g R := ⟨h.toRow.kk hne hA hB hk, h.tg.kk hA hB hk⟩
theorem RL.kk {A B : Nat} {w w' : World} {c : Nat} {v : Value} {L LA LB : List Bl} (h : RL w c v L) (hA : Mp w A LA) (hB : Mp w B LB) (hk : Kept A B w w') : RL w' c v L := by
  rcases h with h | ⟨g, k, hv, h0, h1, h2, h3, hr⟩
  · exact Or.inl h
  · exact Or.inr ⟨g, k, hv, h0, h1, h2, h3, hr.kk h3 hA hB hk⟩
/-- The document's answer's, where the package's maps turn. -/
theorem RB.kk {A B : Nat} {w w' : World} {c : Nat} {N : Int} {F T LA LB : List Bl} (h : RB w c N F T) (hA : Mp w A LA) (hB : Mp w B LB) (hk : Kept A B w w') : RB w' c N F T := by
  obtain ⟨v1, e1, l1⟩ := h.c1
  obtain ⟨v2, e2, l2⟩ := h.c2
  have e := hk.block c h.lt (ne_map h.c0 hA) (ne_map h.c0 hB)
  exact ⟨cell_kept h.c0 hA hB hk, ⟨v1, cell_kept e1 hA hB hk, l1.kk hA hB hk⟩, ⟨v2, cell_kept e2 hA hB hk, l2.kk hA hB hk⟩, (World.frozen?_of_block (w := w) (a := ⟨c, 1, none⟩) e).trans h.f1, (World.frozen?_of_block (w := w) (a := ⟨c, 2, none⟩) e).trans h.f2, Nat.lt_of_lt_of_le h.lt hk.size, h.tg.kk hA hB hk⟩
/-- The package's, where the document's answer's cells turn. -/
theorem Bud.kc {w w' : World} {b fm tm c : Nat} {N M : Int} {F T G U : List Bl} (h : Bud w b fm tm N F T) (hr : RB w c M G U) (hbc : b ≠ c) (hk : Kept c c w w') : Bud w' b fm tm N F T :=
  have n1 : fm ≠ c := (ne_map hr.c0 h.f).symm
  have n2 : tm ≠ c := (ne_map hr.c0 h.t).symm
  ⟨(hk.cell (p := ⟨b, 0, none⟩) h.lt hbc hbc).trans h.c0, (hk.cell (p := ⟨b, 1, none⟩) h.lt hbc hbc).trans h.c1, (hk.cell (p := ⟨b, 2, none⟩) h.lt hbc hbc).trans h.c2, h.f.k hk n1 n1, h.t.k hk n2 n2, h.n1, h.n2, h.n3, Nat.lt_of_lt_of_le h.lt hk.size⟩
/-- One of the package's, where the maps of another turn. -/
theorem Bud.kk {A B : Nat} {w w' : World} {b fm tm : Nat} {N : Int} {F T LA LB : List Bl} (h : Bud w b fm tm N F T) (hA : Mp w A LA) (hB : Mp w B LB) (hk : Kept A B w w') (n1 : fm ≠ A) (n2 : fm ≠ B) (n3 : tm ≠ A) (n4 : tm ≠ B) : Bud w' b fm tm N F T :=
  ⟨cell_kept h.c0 hA hB hk, cell_kept h.c1 hA hB hk, cell_kept h.c2 hA hB hk, h.f.k hk n1 n2, h.t.k hk n3 n4, h.n1, h.n2, h.n3, Nat.lt_of_lt_of_le h.lt hk.size⟩
theorem inv_lenT {N : Int} {F T : List Bl} (hi : Inv N F T) (hN : N ≤ 256) : T.length ≤ 256 := by
  have := srt_len hi.sT (a := 0) (b := 256) (fun z hz => by have := hi.small hN hz; omega)
  omega
theorem inv_lenF {N : Int} {F T : List Bl} (hi : Inv N F T) (hN : N ≤ 256) : F.length ≤ 256 := by
  have := srt_len hi.sF (a := 0) (b := 256) (fun z hz => by have h1 := hi.inF hz; have h2 := pw_pos z.2; omega)
  omega
theorem inv_ordF {N : Int} {F T : List Bl} (hi : Inv N F T) : ∀ x ∈ F, 0 ≤ x.2 ∧ x.2 ≤ 6 := fun x hx => by
  have := hi.oF x hx
  unfold Okb at this
  omega
theorem errs_four {w : World} {e : Nat → Addr} (h : Errs w e) : Errs4 w e := ⟨h.three, h.v4⟩

theorem give_both (b fm tm c : Nat) (N : Int) (F T : List Bl) (x : Bl) (e : Nat → Addr) (hi : Inv N F T) (hN : N ≤ 256) (hw : (Lit.int .i64 x.1).wf = true) :
    ∃ F' T' d r, Inv N F' T' ∧
      (∀ w1, Errs w1 e → Bud w1 b fm tm N F T → Calls Tryz.prog 124 #[ptr b, blkV x.1 x.2] w1 fun ev w' => ev = .returned d ∧ Bud w' b fm tm N F' T' ∧ Kept fm tm w1 w') ∧
      (∀ w1, RB w1 c N F T → Calls Tryz.prog 137 #[ptr c, blkV x.1 x.2] w1 fun ev w' => ev = .returned (.int .i64 r) ∧ RB w' c N F' T' ∧ Kept c c w1 w') ∧
      (∀ w1, Errs w1 e → Calls Tryz.prog 22 #[d, .int .i64 r] w1 fun ev w' => ev = .returned (.bool true) ∧ Below w1.heap.size w1 w') := by
  by_cases hx : x ∈ T
  · refine ⟨giveF x F, del x.1 T, .nilIface, 0, give_inv hi hx, ?_, ?_, ?_⟩
    · intro w1 he hb
      exact give_ok b fm tm N F T x w1 e he.three hb hi hN hx
    · intro w1 hr
      exact rgive_ok c N F T x w1 hr hi hN hx
    · intro w1 _
      exact coded_nil w1
  · refine ⟨F, T, errV (e 3), 4, hi, ?_, ?_, ?_⟩
    · intro w1 he hb
      refine (give_err b fm tm N F T x w1 e he.three hb hw hx).mono ?_
      rintro ev w' ⟨rfl, hbl⟩
      exact ⟨rfl, hb.b hbl, kept_of hbl⟩
    · intro w1 hr
      refine (rgive_none c N F T x w1 hr (inv_lenT hi hN) hx).mono ?_
      rintro ev w' ⟨rfl, hbl⟩
      exact ⟨rfl, hr.b hbl, kept_of hbl⟩
    · intro w1 he
      exact coded_sent 3 (by omega) 4 rfl w1 e he

/-- Take on one alone, whatever comes of it. -/
theorem take_any (b fm tm : Nat) (N : Int) (F T : List Bl) (o : Int) (e : Nat → Addr) (hi : Inv N F T) (hN : N ≤ 256) (h0 : 0 ≤ o) (h6 : o ≤ 6) :
    ∃ F' T' v u, Inv N F' T' ∧ ∀ w1, Errs w1 e → Bud w1 b fm tm N F T → Calls Tryz.prog 132 #[ptr b, .int .i64 o] w1 fun ev w' => ev = .returned (.tuple #[v, u]) ∧ Bud w' b fm tm N F' T' ∧ Kept fm tm w1 w' := by
  cases hf : fit o F with
  | none =>
    refine ⟨F, T, blkV 0 0, errV (e 4), hi, fun w1 he hb => (take_full b fm tm N F T o w1 e (errs_four he) hb h0 h6 hf).mono ?_⟩
    rintro ev w' ⟨rfl, hbl⟩
    exact ⟨rfl, hb.b hbl, kept_of hbl⟩
  | some x =>
    exact ⟨takeF o x F, ins (x.1, o) T, blkV x.1 o, .nilIface, take_inv h0 hi (fit_some hf).1 (fit_some hf).2, fun w1 he hb => take_ok b fm tm N F T o x w1 hb hi hN h0 h6 hf⟩

set_option maxHeartbeats 1000000 in
theorem new_bad (N : Int) (w : World) (e : Nat → Addr) (he : Errs w e) (h : N < 1 ∨ 256 < N) :
    Calls Tryz.prog 47 #[.int .i64 N] w fun ev w' => ev = .returned (.tuple #[.pointer none, errV (e 1)]) ∧ Below w.heap.size w w' := by
  have HE := hide he.three
  have e1 := he.v1
  clear he
  by_cases c1 : N < 1
  · have d1 : decide (N < 1) = true := by simpa using c1
    go_enter Tryz.func47, Tryz.ntmps47
    go_wp2_with fail
    go_region
    go_wp2
    go_ret2
    exact ⟨rfl, (Below.refl _ _).drew⟩
  · have d1 : decide (N < 1) = false := by simpa using c1
    have HC := hide (fun w1 he => cover_err 0 N w1 e he (by omega))
    go_enter Tryz.func47, Tryz.ntmps47
    go_wp2_with fail
    refine ((unhide HC) w (unhide HE)).mono ?_
    rintro ev w' ⟨rfl, hb⟩
    go_wp2
    go_ret2
    exact ⟨rfl, hb⟩
end Bd
end Go.Proofs.YtfefehkapffljaaGreatDoor
namespace Go.Proofs.YtfefehkapffljaaGreatDoor
open Go.RowKit Go.Maps
namespace Dz
open Fr Bd Zn
set_option maxHeartbeats 2000000 in
theorem zgive_bad (z : Nat) (mn lw hi : Int) (k : Nat) (nb fm tm : Nat → Nat) (nd : Nat → Nd) (fr : Nat → List Nat) (x a o : Int) (w : World) (e : Nat → Addr) (he : Errs3 w e) (h : DZ w z mn lw hi k nb fm tm nd fr) (hx : ¬ (0 ≤ x ∧ x < k)) :
    Calls Tryz.prog 60 #[ptr z, plV x a o] w fun ev w' => ev = .returned (errV (e 1)) ∧ Below w.heap.size w w' := by
  have F1 := ballo (Below.refl w.heap.size w) (plO x a o)
  have H := has_ok z mn lw hi k nb fm tm nd fr x _ (h.b F1)
  rw [show decide (0 ≤ x ∧ x < k) = false by simpa using hx] at H
  have H := hide H
  have hE := (he.alloc (plO x a o)).bound
  clear h he hx
  unfold ptr errV plV plO at *
  go_enter Tryz.func60, Tryz.ntmps60
  go_wp2_with fail
  refine (unhide H).mono ?_
  rintro ev w' ⟨rfl, rfl⟩
  go_wp2_with fail
  go_ret
  exact ⟨rfl, F1⟩
theorem dgive_any (b fm tm : Nat) (d : Nd) (x : Bl) (w : World) (e : Nat → Addr) (he : Errs3 w e) (h : Bud w b fm tm d.N d.F d.T) (hok : d.ok) (hw : (Lit.int .i64 x.1).wf = true) :
    Calls Tryz.prog 124 #[ptr b, blkV x.1 x.2] w fun ev w' => ev = .returned (errC e (gaveE x d)) ∧ Bud w' b fm tm (gaveD x d).N (gaveD x d).F (gaveD x d).T ∧ Kept fm tm w w' := by
  unfold gaveD gaveE errC
  by_cases hx : x ∈ d.T
  · rw [if_pos hx, if_pos hx, if_pos rfl]
    exact give_ok b fm tm d.N d.F d.T x w e he h hok.2.2 hok.2.1 hx
  · rw [if_neg hx, if_neg hx, if_neg (by decide)]
    refine (give_err b fm tm d.N d.F d.T x w e he h hw hx).mono ?_
    rintro ev w' ⟨rfl, hb⟩
    exact ⟨rfl, h.b hb, kept_of hb⟩
set_option maxHeartbeats 4000000 in
theorem zgive_ok (z : Nat) (mn lw hi : Int) (k : Nat) (nb fm tm : Nat → Nat) (nd : Nat → Nd) (fr : Nat → List Nat) (x : Nat) (a o : Int) (w : World) (e : Nat → Addr) (he : Errs3 w e) (h : DZ w z mn lw hi k nb fm tm nd fr) (hx : x < k) (hw : (Lit.int .i64 a).wf = true) :
    Calls Tryz.prog 60 #[ptr z, plV x a o] w fun ev w' => ev = .returned (errC e (gaveE (a, o) (nd x))) ∧ DZ w' z mn lw hi k nb fm tm (up nd x (gaveD (a, o) (nd x))) fr ∧ Kept (fm x) (tm x) w w' := by
  have F1 := ballo (Below.refl w.heap.size w) (plO x a o)
  have D1 := h.b F1
  have H1 := has_ok z mn lw hi k nb fm tm nd fr x _ D1
  rw [show decide ((0 : Int) ≤ (x : Int) ∧ (x : Int) < k) = true by simp; omega] at H1
  have H1 := hide H1
  obtain ⟨g, c, e1, hg, e2⟩ := D1.node hx
  have hzl := D1.lt
  have q0 := World.cell?_alloc_new w #[.int .i64 (x : Int), .int .i64 a, .int .i64 o] 73 0
  have q1 := World.cell?_alloc_new w #[.int .i64 (x : Int), .int .i64 a, .int .i64 o] 73 1
  have q2 := World.cell?_alloc_new w #[.int .i64 (x : Int), .int .i64 a, .int .i64 o] 73 2
  simp only [List.getElem?_toArray, List.getElem?_cons_zero, List.getElem?_cons_succ] at q0 q1 q2
  have HG := hide (fun w1 (hb : Below (w.alloc (plO x a o)).heap.size (w.alloc (plO x a o)) w1) => dgive_any (nb x) (fm x) (tm x) (nd x) (a, o) w1 e ((he.alloc (plO x a o)).below hb) ((D1.bd x hx).b hb) (h.ok x hx) hw)
  have HT := hide (fun w1 (hb : Below (w.alloc (plO x a o)).heap.size (w.alloc (plO x a o)) w1) w' hk hd => (D1.b hb).turn hx (w' := w') hk (d := gaveD (a, o) (nd x)) hd (gave_ok (h.ok x hx)))
  have hK : Kept (fm x) (tm x) w (w.alloc (plO x a o)) := kept_of F1
  clear h he D1 F1
  have hlt : (x : Int) < k := by omega
  have hge : (0 : Int) ≤ x := by omega
  generalize gaveD (a, o) (nd x) = d' at *
  generalize errC e (gaveE (a, o) (nd x)) = e' at *
  generalize nb x = y at *
  unfold ptr plV plO blkV at *
  go_enter Tryz.func60, Tryz.ntmps60
  go_wp2_with fail
  refine (unhide H1).mono ?_
  rintro ev w3 ⟨rfl, rfl⟩
  generalize w.alloc (.cells #[.int .i64 (x : Int), .int .i64 a, .int .i64 o] 73) = W at *
  clear H1
  go_wp2_with fail
  go_region_with ((go_at_call 124; refine ((unhide HG) _ (drw W)).mono ?_; rintro ev w4 ⟨rfl, hd, k4⟩))
  all_goals
    have R4 := (unhide HT) _ (drw W) w4 k4 hd
    have C4 := (hK.trans (kept_of (drw W))).trans k4
    clear HG HT hK hd k4
    go_wp2
    go_ret
    exact ⟨rfl, R4, C4⟩
end Dz
end Go.Proofs.YtfefehkapffljaaGreatDoor
