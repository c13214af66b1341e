/- The document's answer's own FreePages and NewBuddy; the law's 'asBuddy'. -/
import Derived.Test.YtdmeoooimnfmaaaGreatDoorR7
import Derived.Test.YtdmeoooimnfmaaaGreatDoorPages
import Derived.Test.YtdmeoooimnfmaaaGreatDoorLawCover
namespace Go.Proofs.YtdmeoooimnfmaaaGreatDoor
open Go.RowKit
attribute [local go_sem ↓] Go.wp_at_zero Go.wp_at_succ
namespace Bd
open Fr
theorem pgs_append : ∀ (a b : List Bl), pgs (a ++ b) = pgs a + pgs b
  | [], b => by simp [pgs]
  | x :: a, b => by have := pgs_append a b; simp [pgs]; omega
theorem pgs_take {L : List Bl} {j : Nat} (h : j < L.length) : pgs (L.take (j + 1)) = pgs (L.take j) + pw L[j].2 := by
  rw [List.take_succ_eq_append_getElem h, pgs_append]; simp [pgs]

set_option maxRecDepth 100000 in
set_option maxHeartbeats 4000000 in
theorem rfree_ok (b : Nat) (N : Int) (F T : List Bl) (w : World) (h : RB w b N F T) (hl : F.length ≤ 256) (hF : ∀ x ∈ F, 0 ≤ x.2 ∧ x.2 ≤ 6) :
    Calls Tryz.prog 35 #[ptr b] w fun ev w' => ev = .returned (.int .i64 (pgs F)) ∧ Below w.heap.size w w' := by
  have hbl := h.lt
  obtain ⟨v1, e10, l1⟩ := h.c1
  obtain ⟨p, c, rfl, hp⟩ := rl_row l1
  have HG := hide hF
  clear l1 h hF
  unfold ptr
  generalize hn : F.length = n at *
  go_enter Tryz.func35, Tryz.ntmps35
  go_wp2_with fail
  go_loopw [3, 4] (fun s t wr => ∃ j : Nat, s = .int .i64 (pgs (F.take j)) ∧ t = .int .i64 j ∧ j ≤ n ∧ Hid (Below w.heap.size w wr)) (fun _ t _ => n - (RowKit.intOf t).toNat)
  case atStart => exact ⟨0, rfl, rfl, Nat.zero_le _, Below.refl _ _⟩
  case round =>
    obtain ⟨j, rfl, rfl, hj, hb⟩ := hrel
    have e1 := ((unhide hb).cell (p := ⟨b, 1, none⟩) hbl).trans e10
    have hjn0 : (0 : Int) ≤ j := by omega
    have hbd := pgs_bd (l := F.take j) (fun x hx => (unhide HG) x (List.mem_of_mem_take hx))
    rw [List.length_take] at hbd
    by_cases hjn : j < n
    · have hjn2 : (j : Int) < n := by omega
      have hjL : j < F.length := by omega
      obtain ⟨g, rfl, hcap, hcap2, hr0⟩ := hp (by omega)
      have hjc2 : (j : Int) < c := by omega
      have c1 := ((hr0.b (unhide hb)).c j hjL).2
      rw [getD_lt hjL] at c1
      have hx := (unhide HG) F[j] (List.getElem_mem hjL)
      have hpt := hide (pgs_take hjL)
      have hpw := pw_le6 F[j].2 hx.1 hx.2
      have hpp := pw_pos F[j].2
      have hmin : min j F.length ≤ 256 := by omega
      have hbb : 0 ≤ pgs (F.take j) ∧ pgs (F.take j) ≤ 64 * 256 := ⟨hbd.1, by omega⟩
      generalize F[j].2 = y at *
      have HP := hide (fun w => pages_ok y w hx.1 hx.2)
      generalize pw y = q at *
      generalize hps : pgs (F.take j) = s at *
      clear hr0 hp hbd
      go_wp2_with (go_at_call 40; refine ((unhide HP) _).mono ?_; rintro ev w3 ⟨rfl, rfl⟩)
      go_roundw
      case rel => exact ⟨j + 1, by rw [unhide hpt], by go_num, by omega, unhide hb⟩
      case measure => simp [RowKit.intOf]; omega
    · have hjn2 : ¬ (j : Int) < n := by omega
      have hje : F.take j = F := List.take_of_length_le (by omega)
      rw [hje]
      clear hbd hje
      generalize hps : pgs F = s at *
      have HPS := hide hps
      clear hps
      go_wp2
      go_ret
      exact ⟨by rw [unhide HPS]; rfl, unhide hb⟩

set_option maxHeartbeats 4000000 in
theorem rnew_ok (N : Int) (w : World) (h1 : 1 ≤ N) (h2 : N ≤ 256) :
    Calls Tryz.prog 7 #[.int .i64 N] w fun ev w' => ∃ b, ev = .returned (ptr b) ∧ RB w' b N (cv 0 N) [] ∧ w.heap.size ≤ b ∧ Below w.heap.size w w' := by
  have HC := hide (fun w => rcover_ok 0 N w (by omega) (by omega) (by omega))
  generalize cv 0 N = F at *
  unfold ptr
  go_enter Tryz.func7, Tryz.ntmps7
  go_wp2_with fail
  refine (unhide HC _).mono ?_
  rintro ev w2 ⟨v, rfl, hrow, b2, hnil⟩
  have hl : ∀ b, b < w.heap.size ∨ w2.heap.size ≤ b → RL w2 b v F := by
    intro b hb
    by_cases hF : F = []
    · exact Or.inl ⟨hF, hnil hF⟩
    · obtain ⟨g, cap, hv, hg, hcap, hcap2, hr⟩ := row_of hrow hF
      have := hr.lt
      exact Or.inr ⟨g, cap, hv, by omega, hcap, hcap2, hF, hr⟩
  obtain ⟨p, m, c, rfl, _⟩ := rl_slice (hl w2.heap.size (Or.inr (Nat.le_refl _)))
  have hs := b2.size
  clear HC
  go_wp2_with fail
  go_ret
  have q0 := World.cell?_alloc_new w2 #[.int .i64 N, .slice p m c, .slice none 0 0] 60 0
  have q1 := World.cell?_alloc_new w2 #[.int .i64 N, .slice p m c, .slice none 0 0] 60 1
  have q2 := World.cell?_alloc_new w2 #[.int .i64 N, .slice p m c, .slice none 0 0] 60 2
  exact ⟨w2.heap.size, rfl, ⟨q0, ⟨_, q1, (hl _ (Or.inr (Nat.le_refl _))).b (ballo (Below.refl _ _) _)⟩, ⟨_, q2, Or.inl ⟨rfl, rfl⟩⟩, by simp, by simp, by simp⟩, hs, ballo b2 _⟩

set_option maxRecDepth 100000 in
set_option maxHeartbeats 8000000 in
theorem as_buddy (b fm tm c : Nat) (N : Int) (F T : List Bl) (w : World) (hb : Bud w b fm tm N F T) (hr : RB w c N F T) (hF : F.length ≤ 256) (hT : T.length ≤ 256) (hG : ∀ x ∈ F, 0 ≤ x.2 ∧ x.2 ≤ 6) :
    Calls Tryz.prog 16 #[ptr b, ptr c] w fun ev w' => ev = .returned (.bool true) ∧ Below w.heap.size w w' := by
  have HP := hide (pages_free b fm tm N F T w hb)
  have HB := hide hb
  have HR := hide hr
  clear hb hr
  generalize hpg : pgs F = s at *
  have HPG := hide hpg
  clear hpg
  have hq : ∀ x : Nat, ptr x = .pointer (some ⟨x, 0, none⟩) := fun _ => rfl
  rw [hq b, hq c]
  go_enter Tryz.func16, Tryz.ntmps16
  go_wp2_with fail
  refine (unhide HP).mono ?_
  rintro ev w2 ⟨rfl, b2⟩
  clear HP
  have B2 := (unhide HB).b b2
  have R2 := (unhide HR).b b2
  obtain ⟨v1, e1, l1⟩ := R2.c1
  obtain ⟨v2, e2, l2⟩ := R2.c2
  have e0 := R2.c0
  have hrl := R2.lt
  have KC := hide (fun w1 (hb : Below w2.heap.size w2 w1) => (⟨(hb.cell (p := ⟨c, 1, none⟩) hrl).trans e1, (hb.cell (p := ⟨c, 2, none⟩) hrl).trans e2, (hb.cell (p := ⟨c, 0, none⟩) hrl).trans e0⟩ : w1.cell? ⟨c, 1, none⟩ = some v1 ∧ w1.cell? ⟨c, 2, none⟩ = some v2 ∧ w1.cell? ⟨c, 0, none⟩ = some (.int .i64 N)))
  have H17 := hide (fun w1 (hb : Below w2.heap.size w2 w1) => free_ok b fm tm N F T w1 (B2.b hb))
  have H34 := hide (fun w1 (hb : Below w2.heap.size w2 w1) => taken_ok b fm tm N F T w1 (B2.b hb))
  have H35 := hide (fun w1 (hb : Below w2.heap.size w2 w1) => rfree_ok c N F T w1 (R2.b hb) hF hG)
  have HS1 := hide (fun w1 u (hb : Below w2.heap.size w2 w1) (hu : Lies w1 u F) => same_blocks u v1 F w1 hF hu (l1.lies.b hb))
  have HS2 := hide (fun w1 u (hb : Below w2.heap.size w2 w1) (hu : Lies w1 u T) => same_blocks u v2 T w1 hT hu (l2.lies.b hb))
  rw [unhide HPG] at H35
  have K0 := (unhide KC) w2.drew (drw w2)
  have HBW := hide b2
  clear B2 R2 e1 e2 e0 l1 l2 b2 HB HR
  have tk1 : True := trivial
  go_wp2_with fail
  go_region_held3 (fun w' => w'.cell? ⟨c, 1, none⟩ = some v1 ∧ w'.cell? ⟨c, 2, none⟩ = some v2 ∧ w'.cell? ⟨c, 0, none⟩ = some (.int .i64 N)) ((first | (go_keep; done) | (exact (unhide KC) _ (by assumption)))) ((first
    | (go_at_call 17; refine ((unhide H17) _ (drw w2)).mono ?_; rintro ev w3 ⟨u3, rfl, o3, n3, b3⟩; have f3 : Below w2.heap.size w2 w3 := bd b3; have L3 := lies_of o3 n3; clear o3 n3 b3)
    | (go_at_call 33; have _t := tk1; refine ((unhide HS1) w3 u3 f3 L3).mono ?_; rintro ev w4 ⟨rfl, b4⟩; have f4 : Below w2.heap.size w2 w4 := fwd f3 f3.size b4; clear tk1 b4)
    | (go_at_call 34; refine ((unhide H34) w4 f4).mono ?_; rintro ev w5 ⟨u5, rfl, o5, n5, b5⟩; have f5 : Below w2.heap.size w2 w5 := fwd f4 f4.size b5; have L5 := lies_of o5 n5; clear o5 n5 b5)
    | (go_at_call 33; refine ((unhide HS2) w5 u5 f5 L5).mono ?_; rintro ev w6 ⟨rfl, b6⟩; have f6 : Below w2.heap.size w2 w6 := fwd f5 f5.size b6; clear b6)
    | (go_at_call 35; refine ((unhide H35) w6 f6).mono ?_; rintro ev w7 ⟨rfl, b7⟩; have f7 : Below w2.heap.size w2 w7 := fwd f6 f6.size b7; clear b7)))
  go_wp2
  go_ret
  exact ⟨rfl, btr (unhide HBW) f7⟩
end Bd
end Go.Proofs.YtdmeoooimnfmaaaGreatDoor
