/- The document's answer's own Split, where it splits · Each act on both: what the package does and what the document's answer does, side by side. -/
import Derived.Test.YtealnnppoffmnaaGreatDoorGI
import Derived.Deep.DrawnRows
import Derived.Test.YtealnnppoffmnaaGreatDoorGS
import Derived.Test.YtealnnppoffmnaaGreatDoorGB
namespace Go.Proofs.YtealnnppoffmnaaGreatDoor
open Go.RowKit
attribute [local go_sem ↓] Go.wp_at_zero Go.wp_at_succ
namespace Bd
open Fr
set_option maxHeartbeats 8000000 in
theorem rsplit_ok (b : Nat) (N : Int) (F T : List Bl) (a k : Int) (w : World) (h : RB w b N F T) (hi : Inv N F T) (hN : N ≤ 256) (hx : (a, k) ∈ T) (k1 : 1 ≤ k) :
    Calls Tryz.prog 17 #[ptr b, blkV a k] w fun ev w' => ev = .returned (.int .i64 0) ∧ RB w' b N F (ins (a + pw (k - 1), k - 1) (ins (a, k - 1) T)) ∧ Kept b b w w' := by
  have hsm := hi.small hN hx
  have hin := hi.inT hx
  have hok := hi.oT _ hx
  unfold Okb at hok
  simp only at hsm hin hok
  have hhd := half_dvd k1 hok.2.2
  have hpp := pw_pos (k - 1)
  have hal1 : al a (k - 1) = true := (al_dvd _ _).2 hhd.1
  have hd1 : pw (k - 1 + 1) ∣ a := by rw [show k - 1 + 1 = k by omega]; exact hok.2.2
  have hbl := bud_low (a := a) (k := k - 1) (by omega) hd1
  have HBU := fun w => rbuddy_ok a (k - 1) w hsm.1 hsm.2.1 (by omega) (by omega) hal1
  rw [hbl] at HBU
  have HBU := hide HBU
  have HO := hi.outT hx
  have hoff1 : ∀ y ∈ del a T, y.1 ≠ a := fun y hy => (mem_del.1 hy).2
  have hoff2 : ∀ y ∈ ins (a, k - 1) (del a T), y.1 ≠ a + pw (k - 1) := fun y hy => by
    rcases mem_ins_sub hy with rfl | hy
    · show a ≠ a + pw (k - 1); omega
    · have := HO.offT hy
      simp only at this
      omega
  have hee : ins (a, k - 1) T = ins (a, k - 1) (del a T) := srt_ext (srt_ins hi.sT) (srt_ins (srt_del hi.sT)) (fun y => by
    rw [mem_ins hi.sT, mem_ins (srt_del hi.sT), mem_del]
    constructor
    · rintro (h | ⟨h, h2⟩)
      · exact Or.inl h
      · exact Or.inr ⟨⟨h, h2⟩, h2⟩
    · rintro (h | ⟨⟨h, h2⟩, _⟩)
      · exact Or.inl h
      · exact Or.inr ⟨h, h2⟩)
  rw [hee]
  have hs := hi.sT
  have hil : (ins (a, k - 1) (del a T)).length ≤ 256 := by
    have := srt_len (srt_ins (x := (a, k - 1)) (srt_del (a := a) hi.sT)) (a := 0) (b := 256) (fun z hz => by
      rcases mem_ins_sub hz with rfl | hz
      · simp only; omega
      · have := hi.small hN (mem_del.1 hz).1; omega)
    omega
  have hl : T.length ≤ 256 := by
    have := srt_len hi.sT (a := 0) (b := 256) (fun z hz => by have := hi.small hN hz; omega)
    omega
  have hdl : (del a T).length ≤ 256 := Nat.le_trans (List.length_filter_le _ _) hl
  have hk6 := hsm.2.2.2
  have hkz : (k == 0) = false := by simp; omega
  obtain ⟨a2, k2, HA2, HK2⟩ : ∃ a2 k2, Hid (a2 = a + pw (k - 1)) ∧ Hid (k2 = k - 1) := ⟨_, _, rfl, rfl⟩
  rw [← unhide HA2, ← unhide HK2] at HBU hoff2 ⊢
  rw [← unhide HK2] at hil
  have hki : k - 1 = k2 := (unhide HK2).symm
  clear hi hin hok hhd hpp hal1 hd1 hbl HO hee hsm
  have HOF1 := hide hoff1
  have HOF2 := hide hoff2
  have HSS := hide hs
  clear hoff1 hoff2 hs
  have B2 := h.a (blkO a k)
  have X2 := bx_new w (a, k)
  have F2 := ballo (Below.refl w.heap.size w) (blkO a k)
  have s2 : (w.alloc (blkO a k)).heap.size = w.heap.size + 1 := by simp
  clear h
  unfold ptr
  go_enter Tryz.func17, Tryz.ntmps17
  go_wp2_with fail
  generalize w.alloc (blkO a k) = W at *
  obtain ⟨v2, e2, l2⟩ := B2.c2
  have x0 := X2.c0
  have x1 := X2.c1
  simp only at x0 x1
  have HF := hide (find_any b v2 T (a, k) W.drew (l2.b ⟨rfl, rfl, rfl, Nat.le_refl _, fun _ _ => rfl⟩) hl)
  have KC := hide (fun w1 (hb : Below W.heap.size W.drew w1) => (⟨((bd hb).cell (p := ⟨b, 2, none⟩) B2.lt).trans e2, ((bd hb).cell (p := ⟨w.heap.size, 0, none⟩) X2.lt).trans X2.c0, ((bd hb).cell (p := ⟨w.heap.size, 1, none⟩) X2.lt).trans X2.c1⟩ : w1.cell? ⟨b, 2, none⟩ = some v2 ∧ w1.cell? ⟨w.heap.size, 0, none⟩ = some (.int .i64 a) ∧ w1.cell? ⟨w.heap.size, 1, none⟩ = some (.int .i64 k)))
  have HF := hide ((unhide HF).mono (R' := fun ev w' => Below W.heap.size W.drew w' ∧ ∃ q : Nat, ∃ hq : q < T.length, ev = .returned (.int .i64 q) ∧ T[q] = (a, k)) (fun ev w' h => ⟨h.1, by
    rcases h.2 with h2 | h2
    · exact absurd hx h2.2
    · exact h2⟩))
  go_region_held3 (fun w' => w'.cell? ⟨b, 2, none⟩ = some v2 ∧ w'.cell? ⟨w.heap.size, 0, none⟩ = some (.int .i64 a) ∧ w'.cell? ⟨w.heap.size, 1, none⟩ = some (.int .i64 k)) ((first | (go_keep; done) | (exact (unhide KC) _ (by assumption)))) ((go_at_call 49; refine (unhide HF).mono ?_; rintro ev w3 ⟨b3, q, hq, rfl, hTq⟩))
  have hqn : decide ((q : Int) < 0) = false := by simp
  have B3 := B2.b (bd b3)
  have X3 := X2.b (bd b3)
  have F3 := F2.trans ((bd b3).mono (by omega))
  clear KC HF e2 l2 x0 x1 B2 X2 F2 b3
  have x0 := X3.c0
  have x1 := X3.c1
  simp only at x0 x1
  have B4 := B3.a (blkO a k2)
  have F4 := ballo F3 (blkO a k2)
  have XL := bx_new w3 (a, k2)
  have hbc : b < w3.heap.size := B3.lt
  have F4k := hide ((kept_of F4 : Kept b b w (w3.alloc (blkO a k2))))
  go_wp2_with fail
  generalize w3.alloc (blkO a k2) = W4 at *
  generalize w3.heap.size = c at *
  clear x0 x1 X3 B3 F3
  obtain ⟨v2, e2, l2⟩ := B4.c2
  have l0 := XL.c0
  have l1 := XL.c1
  simp only at l0 l1
  have hbl4 := B4.lt
  have hbw := hide hbl4
  have H25 := hide (without_any b v2 T q W4.drew (l2.b ⟨rfl, rfl, rfl, Nat.le_refl _, fun _ _ => rfl⟩) (unhide HSS) hl hq hbl4)
  rw [show T[q].1 = a by rw [hTq]] at H25
  have KC := hide (fun w1 (hb : Below W4.heap.size W4.drew w1) => (⟨((bd hb).cell (p := ⟨c, 0, none⟩) XL.lt).trans XL.c0, ((bd hb).cell (p := ⟨c, 1, none⟩) XL.lt).trans XL.c1⟩ : w1.cell? ⟨c, 0, none⟩ = some (.int .i64 a) ∧ w1.cell? ⟨c, 1, none⟩ = some (.int .i64 k2)))
  have KS := hide (fun w1 v (hb : Below W4.heap.size W4.drew w1) => (⟨(cso (by simp <;> omega)).trans ((unhide KC) w1 hb).1, (cso (by simp <;> omega)).trans ((unhide KC) w1 hb).2⟩ : (w1.setCell ⟨b, 2, none⟩ v).cell? ⟨c, 0, none⟩ = some (.int .i64 a) ∧ (w1.setCell ⟨b, 2, none⟩ v).cell? ⟨c, 1, none⟩ = some (.int .i64 k2)))
  have K2 := hide (fun w1 (hb : Below W4.heap.size W4.drew w1) => (⟨((bd hb).cell (p := ⟨b, 2, none⟩) hbl4).trans e2, ((bd hb).frozen (p := ⟨b, 2, none⟩) hbl4).trans B4.f2⟩ : w1.cell? ⟨b, 2, none⟩ = some v2 ∧ w1.frozen? ⟨b, 2, none⟩ = false))
  have B4H := hide B4
  have tk1 : True := trivial
  clear hTq l2 B4 XL hbl4
  go_region_with ((first
    | (go_at_call 44; refine (unhide H25).mono ?_; rintro ev w5 ⟨p5, m5, c5, rfl, l5, b5⟩; have f5 : Below W4.heap.size W4.drew w5 := b5; have z5 : b < w5.heap.size := Nat.lt_of_lt_of_le (unhide hbw) f5.size; have l50 := ((unhide KC) w5 f5).1; have l51 := ((unhide KC) w5 f5).2)
    | (go_at_call 45; have _t := tk1; refine (with_any b (.slice p5 m5 c5) (del a T) (a, k2) w5 l5 (by omega) (unhide HOF1) z5).mono ?_; rintro ev w6 ⟨p6, m6, c6, rfl, l6, b6⟩; have f6 : Below W4.heap.size W4.drew w6 := f5.trans (b6.mono f5.size); have z6 : b < w6.heap.size := Nat.lt_of_lt_of_le z5 b6.size; clear tk1 b5; have l60 := ((unhide KC) w6 f6).1; have l61 := ((unhide KC) w6 f6).2)
    | (go_at_call 46; refine ((unhide HBU) _).mono ?_; rintro ev w7 ⟨rfl, b7⟩; have l7 := l6.b b7; have f7 : Below W4.heap.size W4.drew w7 := f6.trans (b7.mono f6.size); have z7 : b < w7.heap.size := Nat.lt_of_lt_of_le z6 b7.size)
    | (go_at_call 45; refine (with_any b (.slice p6 m6 c6) (ins (a, k2) (del a T)) (a2, k2) w7 l7 hil (unhide HOF2) z7).mono ?_; rintro ev w8 ⟨p8, m8, c8, rfl, l8, b8⟩; have f8 : Below W4.heap.size W4.drew w8 := f7.trans (b8.mono f7.size); have y8 := ((unhide K2) w8 f8).1; have z8 := ((unhide K2) w8 f8).2)))
  all_goals
    have B8 := ((unhide B4H).b (bd f8)).putT l8
    have F8 := (unhide F4k).trans ((kept_of (bd f8)).trans (kept_set w8 2 (.slice p8 m8 c8)))
    clear H25 HBU HOF1 HOF2 KC KS K2 B4H F4k y8 z8
    go_wp2
    go_ret
    exact ⟨rfl, B8, F8⟩
end Bd
end Go.Proofs.YtealnnppoffmnaaGreatDoor
namespace Go.Proofs.YtealnnppoffmnaaGreatDoor
open Go.RowKit Go.Maps
namespace Bd
open Fr
theorem Row.kk {A B : Nat} {w w' : World} {g : Nat} {R LA LB : List Bl} (h : Row w g R) (hne : R ≠ []) (hA : Mp w A LA) (hB : Mp w B LB) (hk : Kept A B w w') : Row w' g R := by
  have c0 := (h.c 0 (List.length_pos_iff.2 hne)).1
  have e := hk.block g h.lt (ne_map c0 hA) (ne_map c0 hB)
  exact ⟨fun i hi => ⟨(World.cell?_of_block (w := w) e).trans (h.c i hi).1, (World.cell?_of_block (w := w) e).trans (h.c i hi).2⟩, fun o ho => (World.frozen?_of_block (w := w) e).trans (h.fz o ho), Nat.lt_of_lt_of_le h.lt hk.size⟩
theorem Tag.kk {A B : Nat} {w w' : World} {g : Nat} {t : TypeId} {LA LB : List Bl} (h : Tag w g t) (hA : Mp w A LA) (hB : Mp w B LB) (hk : Kept A B w w') : Tag w' g t := by
  have hl := h.lt
  obtain ⟨cur, fz, e⟩ := h
  have ne : ∀ (X : Nat) (LX : List Bl), Mp w X LX → g ≠ X := by
    rintro X LX hX rfl
    obtain ⟨⟨es, clock, h1, _⟩, _, _⟩ := hX
    rw [e] at h1; cases h1
  exact ⟨cur, fz, (hk.block g hl (ne A LA hA) (ne B LB hB)).trans e⟩
theorem Rowt.kk {A B : Nat} {w w' : World} {g : Nat} {R LA LB : List Bl} (h : Rowt w g R) (hne : R ≠ []) (hA : Mp w A LA) (hB : Mp w B LB) (hk : Kept A B w w') : Rowt w' g R := ⟨h.toRow.kk hne hA hB hk, h.tg.kk hA hB hk⟩
theorem RL.kk {A B : Nat} {w w' : World} {c : Nat} {v : Value} {L LA LB : List Bl} (h : RL w c v L) (hA : Mp w A LA) (hB : Mp w B LB) (hk : Kept A B w w') : RL w' c v L := by
  rcases h with h | ⟨g, k, hv, h0, h1, h2, h3, hr⟩
  · exact Or.inl h
  · exact Or.inr ⟨g, k, hv, h0, h1, h2, h3, hr.kk h3 hA hB hk⟩
/-- The document's answer's, where the package's maps turn. -/
theorem RB.kk {A B : Nat} {w w' : World} {c : Nat} {N : Int} {F T LA LB : List Bl} (h : RB w c N F T) (hA : Mp w A LA) (hB : Mp w B LB) (hk : Kept A B w w') : RB w' c N F T := by
  obtain ⟨v1, e1, l1⟩ := h.c1
  obtain ⟨v2, e2, l2⟩ := h.c2
  have e := hk.block c h.lt (ne_map h.c0 hA) (ne_map h.c0 hB)
  exact ⟨cell_kept h.c0 hA hB hk, ⟨v1, cell_kept e1 hA hB hk, l1.kk hA hB hk⟩, ⟨v2, cell_kept e2 hA hB hk, l2.kk hA hB hk⟩, (World.frozen?_of_block (w := w) (a := ⟨c, 1, none⟩) e).trans h.f1, (World.frozen?_of_block (w := w) (a := ⟨c, 2, none⟩) e).trans h.f2, Nat.lt_of_lt_of_le h.lt hk.size, h.tg.kk hA hB hk⟩
/-- The package's, where the document's answer's cells turn. -/
theorem Bud.kc {w w' : World} {b fm tm c : Nat} {N M : Int} {F T G U : List Bl} (h : Bud w b fm tm N F T) (hr : RB w c M G U) (hbc : b ≠ c) (hk : Kept c c w w') : Bud w' b fm tm N F T :=
  have n1 : fm ≠ c := (ne_map hr.c0 h.f).symm
  have n2 : tm ≠ c := (ne_map hr.c0 h.t).symm
  ⟨(hk.cell (p := ⟨b, 0, none⟩) h.lt hbc hbc).trans h.c0, (hk.cell (p := ⟨b, 1, none⟩) h.lt hbc hbc).trans h.c1, (hk.cell (p := ⟨b, 2, none⟩) h.lt hbc hbc).trans h.c2, h.f.k hk n1 n1, h.t.k hk n2 n2, h.n1, h.n2, h.n3, Nat.lt_of_lt_of_le h.lt hk.size⟩
/-- One of the package's, where the maps of another turn. -/
theorem Bud.kk {A B : Nat} {w w' : World} {b fm tm : Nat} {N : Int} {F T LA LB : List Bl} (h : Bud w b fm tm N F T) (hA : Mp w A LA) (hB : Mp w B LB) (hk : Kept A B w w') (n1 : fm ≠ A) (n2 : fm ≠ B) (n3 : tm ≠ A) (n4 : tm ≠ B) : Bud w' b fm tm N F T :=
  ⟨cell_kept h.c0 hA hB hk, cell_kept h.c1 hA hB hk, cell_kept h.c2 hA hB hk, h.f.k hk n1 n2, h.t.k hk n3 n4, h.n1, h.n2, h.n3, Nat.lt_of_lt_of_le h.lt hk.size⟩
theorem inv_lenT {N : Int} {F T : List Bl} (hi : Inv N F T) (hN : N ≤ 256) : T.length ≤ 256 := by
  have := srt_len hi.sT (a := 0) (b := 256) (fun z hz => by have := hi.small hN hz; omega)
  omega
theorem inv_lenF {N : Int} {F T : List Bl} (hi : Inv N F T) (hN : N ≤ 256) : F.length ≤ 256 := by
  have := srt_len hi.sF (a := 0) (b := 256) (fun z hz => by have h1 := hi.inF hz; have h2 := pw_pos z.2; omega)
  omega
theorem inv_ordF {N : Int} {F T : List Bl} (hi : Inv N F T) : ∀ x ∈ F, 0 ≤ x.2 ∧ x.2 ≤ 6 := fun x hx => by
  have := hi.oF x hx
  unfold Okb at this
  omega
theorem errs_four {w : World} {e : Nat → Addr} (h : Errs w e) : Errs4 w e := ⟨h.three, h.v4⟩

theorem give_both (b fm tm c : Nat) (N : Int) (F T : List Bl) (x : Bl) (e : Nat → Addr) (hi : Inv N F T) (hN : N ≤ 256) (hw : (Lit.int .i64 x.1).wf = true) :
    ∃ F' T' d r, Inv N F' T' ∧
      (∀ w1, Errs w1 e → Bud w1 b fm tm N F T → Calls Tryz.prog 14 #[ptr b, blkV x.1 x.2] w1 fun ev w' => ev = .returned d ∧ Bud w' b fm tm N F' T' ∧ Kept fm tm w1 w') ∧
      (∀ w1, RB w1 c N F T → Calls Tryz.prog 15 #[ptr c, blkV x.1 x.2] w1 fun ev w' => ev = .returned (.int .i64 r) ∧ RB w' c N F' T' ∧ Kept c c w1 w') ∧
      (∀ w1, Errs w1 e → Calls Tryz.prog 9 #[d, .int .i64 r] w1 fun ev w' => ev = .returned (.bool true) ∧ Below w1.heap.size w1 w') := by
  by_cases hx : x ∈ T
  · refine ⟨giveF x F, del x.1 T, .nilIface, 0, give_inv hi hx, ?_, ?_, ?_⟩
    · intro w1 he hb
      exact give_ok b fm tm N F T x w1 e he.three hb hi hN hx
    · intro w1 hr
      exact rgive_ok c N F T x w1 hr hi hN hx
    · intro w1 _
      exact coded_nil w1
  · refine ⟨F, T, errV (e 3), 4, hi, ?_, ?_, ?_⟩
    · intro w1 he hb
      refine (give_err b fm tm N F T x w1 e he.three hb hw hx).mono ?_
      rintro ev w' ⟨rfl, hbl⟩
      exact ⟨rfl, hb.b hbl, kept_of hbl⟩
    · intro w1 hr
      refine (rgive_none c N F T x w1 hr (inv_lenT hi hN) hx).mono ?_
      rintro ev w' ⟨rfl, hbl⟩
      exact ⟨rfl, hr.b hbl, kept_of hbl⟩
    · intro w1 he
      exact coded_sent 3 (by omega) 4 rfl w1 e he

theorem split_both (b fm tm c : Nat) (N : Int) (F T : List Bl) (x : Bl) (e : Nat → Addr) (hi : Inv N F T) (hN : N ≤ 256) (hw : (Lit.int .i64 x.1).wf = true) :
    ∃ F' T' d r, Inv N F' T' ∧
      (∀ w1, Errs w1 e → Bud w1 b fm tm N F T → Calls Tryz.prog 16 #[ptr b, blkV x.1 x.2] w1 fun ev w' => ev = .returned d ∧ Bud w' b fm tm N F' T' ∧ Kept fm tm w1 w') ∧
      (∀ w1, RB w1 c N F T → Calls Tryz.prog 17 #[ptr c, blkV x.1 x.2] w1 fun ev w' => ev = .returned (.int .i64 r) ∧ RB w' c N F' T' ∧ Kept c c w1 w') ∧
      (∀ w1, Errs w1 e → Calls Tryz.prog 9 #[d, .int .i64 r] w1 fun ev w' => ev = .returned (.bool true) ∧ Below w1.heap.size w1 w') := by
  obtain ⟨a, k⟩ := x
  simp only at hw ⊢
  by_cases hx : (a, k) ∈ T
  · have hsm := hi.small hN hx
    simp only at hsm
    by_cases hk : k = 0
    · subst hk
      refine ⟨F, T, errV (e 2), 3, hi, ?_, ?_, ?_⟩
      · intro w1 he hb
        refine (split_one b fm tm N F T a w1 e he.three hb hsm.1 hsm.2.1 hx).mono ?_
        rintro ev w' ⟨rfl, hbl⟩
        exact ⟨rfl, hb.b hbl, kept_of hbl⟩
      · intro w1 hr
        refine (rsplit_one c N F T a w1 hr (inv_lenT hi hN) hx).mono ?_
        rintro ev w' ⟨rfl, hbl⟩
        exact ⟨rfl, hr.b hbl, kept_of hbl⟩
      · intro w1 he
        exact coded_sent 2 (by omega) 3 rfl w1 e he
    · refine ⟨F, ins (a + pw (k - 1), k - 1) (ins (a, k - 1) T), .nilIface, 0, hi.split hx (by omega), ?_, ?_, ?_⟩
      · intro w1 he hb
        refine (split_ok b fm tm N F T a k w1 hb hi hN hx (by omega)).mono ?_
        rintro ev w' ⟨rfl, h1, h2⟩
        exact ⟨rfl, h1, h2.wd (Or.inr rfl)⟩
      · intro w1 hr
        exact rsplit_ok c N F T a k w1 hr hi hN hx (by omega)
      · intro w1 _
        exact coded_nil w1
  · refine ⟨F, T, errV (e 3), 4, hi, ?_, ?_, ?_⟩
    · intro w1 he hb
      refine (split_none b fm tm N F T (a, k) w1 e he.three hb hw hx).mono ?_
      rintro ev w' ⟨rfl, hbl⟩
      exact ⟨rfl, hb.b hbl, kept_of hbl⟩
    · intro w1 hr
      refine (rsplit_none c N F T (a, k) w1 hr (inv_lenT hi hN) hx).mono ?_
      rintro ev w' ⟨rfl, hbl⟩
      exact ⟨rfl, hr.b hbl, kept_of hbl⟩
    · intro w1 he
      exact coded_sent 3 (by omega) 4 rfl w1 e he

/-- Take on one alone, whatever comes of it. -/
theorem take_any (b fm tm : Nat) (N : Int) (F T : List Bl) (o : Int) (e : Nat → Addr) (hi : Inv N F T) (hN : N ≤ 256) (h0 : 0 ≤ o) (h6 : o ≤ 6) :
    ∃ F' T' v u, Inv N F' T' ∧ ∀ w1, Errs w1 e → Bud w1 b fm tm N F T → Calls Tryz.prog 11 #[ptr b, .int .i64 o] w1 fun ev w' => ev = .returned (.tuple #[v, u]) ∧ Bud w' b fm tm N F' T' ∧ Kept fm tm w1 w' := by
  cases hf : fit o F with
  | none =>
    refine ⟨F, T, blkV 0 0, errV (e 4), hi, fun w1 he hb => (take_full b fm tm N F T o w1 e (errs_four he) hb h0 h6 hf).mono ?_⟩
    rintro ev w' ⟨rfl, hbl⟩
    exact ⟨rfl, hb.b hbl, kept_of hbl⟩
  | some x =>
    exact ⟨takeF o x F, ins (x.1, o) T, blkV x.1 o, .nilIface, take_inv h0 hi (fit_some hf).1 (fit_some hf).2, fun w1 he hb => take_ok b fm tm N F T o x w1 hb hi hN h0 h6 hf⟩

set_option maxHeartbeats 1000000 in
theorem new_bad (N : Int) (w : World) (e : Nat → Addr) (he : Errs w e) (h : N < 1 ∨ 256 < N) :
    Calls Tryz.prog 8 #[.int .i64 N] w fun ev w' => ev = .returned (.tuple #[.pointer none, errV (e 1)]) ∧ Below w.heap.size w w' := by
  have HE := hide he.three
  have e1 := he.v1
  clear he
  by_cases c1 : N < 1
  · have d1 : decide (N < 1) = true := by simpa using c1
    go_enter Tryz.func8, Tryz.ntmps8
    go_wp2_with fail
    go_region
    go_wp2
    go_ret2
    exact ⟨rfl, (Below.refl _ _).drew⟩
  · have d1 : decide (N < 1) = false := by simpa using c1
    have HC := hide (fun w1 he => cover_err 0 N w1 e he (by omega))
    go_enter Tryz.func8, Tryz.ntmps8
    go_wp2_with fail
    refine ((unhide HC) w (unhide HE)).mono ?_
    rintro ev w' ⟨rfl, hb⟩
    go_wp2
    go_ret2
    exact ⟨rfl, hb⟩
end Bd
end Go.Proofs.YtealnnppoffmnaaGreatDoor
