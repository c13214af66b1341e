/- A slab less; Shrink's closure · Package slab's Shrink, by contract. -/
import Derived.Test.YtfefehkapffljaaGreatDoorKK
import Derived.Test.YtfefehkapffljaaGreatDoorGX
namespace Go.Proofs.YtfefehkapffljaaGreatDoor
open Go.RowKit Go.Maps
namespace Sb
open Fr Bd Zn Dz
/-- An empty slab of this node. -/
def emp (x : Int) (s : Sl) : Bool := decide ((s.nd : Int) = x ∧ s.bm = 0)
set_option maxRecDepth 100000 in
set_option maxHeartbeats 4000000 in
theorem empty_ok (b xb : Nat) (s : Sl) (x : Int) (w : World) (hx : w.cell? ⟨xb, 0, none⟩ = some (.int .i64 x)) (h0 : w.cell? ⟨b, 0, none⟩ = some (.int .i64 s.nd)) (h3 : w.cell? ⟨b, 3, none⟩ = some (.int .u64 s.bm)) :
    Calls Tryz.prog 59 #[ptr b, ptr xb] w fun ev w' => ev = .returned (.bool (emp x s)) ∧ Below w.heap.size w w' := by
  unfold emp
  generalize (s.nd : Int) = nd at *
  have arms : ∃ d1 d2 : Bool, (nd == x) = d1 ∧ ((s.bm : Int) == 0) = d2 ∧ decide (nd = x ∧ s.bm = 0) = (d1 && d2) := by
    refine ⟨_, _, rfl, rfl, ?_⟩
    by_cases c1 : nd = x <;> by_cases c2 : s.bm = 0 <;> simp [c1, c2]
  obtain ⟨d1, d2, e1, e2, e4⟩ := arms
  rw [e4]
  clear e4
  generalize (s.bm : Int) = bm at *
  unfold ptr
  go_enter Tryz.func59, Tryz.ntmps59
  go_upto_region 1 with (fail)
  cases d1
  · go_quiet (fail)
    go_wp2
    go_ret
    exact ⟨rfl, bdN (Below.refl _ _) _⟩
  · cases d2
    · go_quiet (fail)
      go_wp2
      go_ret
      exact ⟨rfl, bdN (Below.refl _ _) _⟩
    · go_quiet (fail)
      go_wp2
      go_ret
      exact ⟨rfl, bdN (Below.refl _ _) _⟩
theorem Ow.del {k : Nat} {nd : Nat → Nd} {ss : List Sl} (h : Ow k nd ss) (hso : Sorted ss) {j : Nat} {s : Sl} (hs : ss[j]? = some s) : Ow k (up nd s.nd (gaveD (s.at_, 0) (nd s.nd))) (ss.eraseIdx j) := fun t ht => by
  obtain ⟨i, hi⟩ := List.mem_iff_getElem?.mp ht
  rw [List.getElem?_eraseIdx] at hi
  have hT := (h s (List.mem_of_getElem? hs)).2
  have key : ∃ i', ss[i']? = some t ∧ i' ≠ j := by
    split at hi
    · exact ⟨i, hi, by omega⟩
    · exact ⟨i + 1, hi, by omega⟩
  obtain ⟨i', hi', hne⟩ := key
  have hm := h t (List.mem_of_getElem? hi')
  refine ⟨hm.1, ?_⟩
  by_cases e : t.nd = s.nd
  · rw [e, up_at, gaveD, if_pos hT]
    have hm2 := hm.2
    rw [e] at hm2
    exact mem_del.mpr ⟨hm2, fun e2 => hne (sorted_uniq hso hi' hs e e2)⟩
  · rw [up_ne _ _ e]; exact hm.2
section
variable {N0 : Nat} {w w5 : World} {c z : Nat} {ly : Ly} {sz : Int} {m : Nat} {bs : List Nat} {ss : List Sl} {mn lw hi : Int} {k : Nat} {nb fm tm : Nat → Nat} {nd : Nat → Nd} {fr : Nat → List Nat}
/-- One slab less. -/
theorem PS.del {j : Nat} (hd : DZ w z mn lw hi k nb fm tm nd fr) (hc : DC N0 w c z ly sz m bs ss) (how : Ow k nd (ss.eraseIdx j)) (hmf : ∀ i, i < k → N0 ≤ fm i ∧ N0 ≤ tm i) (hk4 : k ≤ 20) (hml : ∀ i, i < k → ly.1 ≠ fm i ∧ ly.1 ≠ tm i) (hj : j < ss.length) {p : Option Addr} {d : Nat}
    (e2 : w.cell? ⟨c, 2, none⟩ = some (.slice p bs.length d)) (o2 : w.ownsRow N0 116 1 (.slice p bs.length d) bs.length (ptrl bs)) (g5 : w.grownBy w5 (Value.slice p bs.length d).ownBlock) (o5 : w5.ownsRow N0 116 1 (.slice p (bs.length - 1) d) (bs.length - 1) ((ptrl bs).eraseIdx j)) :
    PS N0 (w5.setCell ⟨c, 2, none⟩ (.slice p (bs.length - 1) d)) c z ly sz m (bs.eraseIdx j) (ss.eraseIdx j) mn lw hi k nb fm tm nd fr ∧ Chg K4 N0 w (w5.setCell ⟨c, 2, none⟩ (.slice p (bs.length - 1) d)) := by
  have hnb : ∀ b t, Tag w b t → t ≠ 116 → some b ≠ (Value.slice p bs.length d).ownBlock := fun b t ht hne e => by
    rcases o2.2 with ⟨e2, _⟩ | ⟨g, cap, cur, e2, hg, hh, _⟩
    · rw [e2] at e; cases e
    · rw [e2] at e
      simp only [Value.ownBlock, Option.some.injEq] at e
      subst e
      exact ht.ne ⟨cur, _, hh⟩ hne rfl
  have hcb : w5.heap[c]? = _ := g5.block c hc.tg.lt (hnb c 114 hc.tg (by decide))
  have hcell : ∀ i v, w.cell? ⟨c, i, none⟩ = some v → w5.cell? ⟨c, i, none⟩ = some v := fun i v hv => (World.cell?_of_block (a := ⟨c, i, none⟩) hcb).trans hv
  have htag5 := hc.tg.blk hcb
  have hC : Chg [some 114, some 116] N0 w (w5.setCell ⟨c, 2, none⟩ (.slice p (bs.length - 1) d)) := ((Chg.grown g5 o2).mono (by simp) (Nat.le_refl _)).trans ((Chg.set htag5 hc.ge 2 _).mono (by simp) (Nat.le_refl _))
  have hbl : j < bs.length := by rw [hc.len]; exact hj
  have hl : (bs.eraseIdx j).length = bs.length - 1 := by rw [List.length_eraseIdx, if_pos hbl]
  have hl2 : (ss.eraseIdx j).length = ss.length - 1 := by rw [List.length_eraseIdx, if_pos hj]
  have hpe : ptrl (bs.eraseIdx j) = (ptrl bs).eraseIdx j := by unfold ptrl; rw [List.eraseIdx_eq_take_drop_succ, List.eraseIdx_eq_take_drop_succ]; simp [List.map_take, List.map_drop]
  have o6 : (w5.setCell ⟨c, 2, none⟩ (.slice p (bs.length - 1) d)).ownsRow N0 116 1 (.slice p (bs.length - 1) d) (bs.length - 1) ((ptrl bs).eraseIdx j) :=
    own_same o5 ((Chg.set htag5 hc.ge 2 _).toSame (us := [116]) (by simp)) (by simp)
  refine ⟨⟨dz_chg hd hC (by decide) (by decide), ⟨(cso (by simp)).trans (hcell 0 _ hc.c0), (cso (by simp)).trans (hcell 1 _ hc.c1), ⟨p, d, by rw [hl]; exact css (hcell 2 _ e2), by rw [hl, hpe]; exact o6⟩, htag5.set _ _, hc.ge, fun b hb => hc.bg b (List.mem_of_mem_eraseIdx hb), by rw [hl, hl2, hc.len], hc.nd.sublist (List.eraseIdx_sublist ..), fun i b s e1 e3 => ?_, fun s hs => hc.ok s (List.mem_of_mem_eraseIdx hs), sorted_erase hc.so j, fun o => ?_, hc.mm, hc.ym.set ((cso (by simp)).trans (hcell 3 _ hc.ym.c3)) (hC.ly (by simp) hc.ym)⟩, how, hmf, hk4, hml⟩, hC.mono (by decide) (Nat.le_refl _)⟩
  · rw [List.getElem?_eraseIdx] at e1 e3
    have hs : SLm w b s := by
      split at e1
      · rename_i hlt
        rw [if_pos hlt] at e3
        exact hc.sl i b s e1 e3
      · rename_i hlt
        rw [if_neg hlt] at e3
        exact hc.sl (i + 1) b s e1 e3
    exact hs.same (hC.same hs.tg (by decide))
  · rw [World.frozen?_setCell]
    exact (World.frozen?_of_block (a := ⟨c, o, none⟩) hcb).trans (hc.cf o)
end
end Sb
end Go.Proofs.YtfefehkapffljaaGreatDoor
namespace Go.Proofs.YtfefehkapffljaaGreatDoor
open Go.RowKit Go.Maps
namespace Sb
open Fr Bd Zn Dz
/-- Shrink's loop, from above. -/
def shr (x : Nat) (q : Int) : Nat → Nat → List Nat → List Sl → (Nat → Nd) → Nat × List Nat × List Sl × (Nat → Nd)
  | 0, g, bs, ss, nd => (g, bs, ss, nd)
  | j + 1, g, bs, ss, nd => if (g : Int) < q then (if emp x (ss.getD j default) then shr x q j (g + 1) (bs.eraseIdx j) (ss.eraseIdx j) (up nd x (gaveD ((ss.getD j default).at_, 0) (nd x))) else shr x q j g bs ss nd) else (g, bs, ss, nd)
/-- What Shrink does. -/
inductive ShS (N0 : Nat) (c z : Nat) (ly : Ly) (sz : Int) (m : Nat) (bs : List Nat) (ss : List Sl) (mn lw hi : Int) (k : Nat) (nb fm tm : Nat → Nat) (nd : Nat → Nd) (fr : Nat → List Nat) (x q : Int) (e : Nat → Addr) (w : World) : Ending → World → Prop
  | no (w' : World) (hp : PS N0 w' c z ly sz m bs ss mn lw hi k nb fm tm nd fr) (hc : Chg K4 N0 w w') (hr : ¬ (0 ≤ x ∧ x < k) ∨ q < 0) :
    ShS N0 c z ly sz m bs ss mn lw hi k nb fm tm nd fr x q e w (.returned (.tuple #[.int .i64 0, errV (e 1)])) w'
  | yes (x' g : Nat) (bs' : List Nat) (ss' : List Sl) (nd' : Nat → Nd) (w' : World) (hx : x = x') (hxk : x' < k) (hq : 0 ≤ q) (hs : shr x' q ss.length 0 bs ss nd = (g, bs', ss', nd'))
    (hp : PS N0 w' c z ly sz m bs' ss' mn lw hi k nb fm tm nd' fr) (hc : Chg K4 N0 w w') :
    ShS N0 c z ly sz m bs ss mn lw hi k nb fm tm nd fr x q e w (.returned (.tuple #[.int .i64 g, .nilIface])) w'
/-- What the loop keeps. -/
structure LR (N0 : Nat) (W : World) (c z : Nat) (ly : Ly) (sz : Int) (m : Nat) (mn lw hi : Int) (k : Nat) (nb fm tm : Nat → Nat) (fr : Nat → List Nat) (x : Nat) (q : Int) (R : Nat × List Nat × List Sl × (Nat → Nd)) (j g : Nat) (bs : List Nat) (ss : List Sl) (nd : Nat → Nd) (w : World) : Prop where
  p : PS N0 w c z ly sz m bs ss mn lw hi k nb fm tm nd fr
  ch : Chg K4 N0 W w
  le : j ≤ ss.length
  st : shr x q j g bs ss nd = R
  gj : g + j ≤ 10000
set_option maxRecDepth 100000 in
set_option maxHeartbeats 16000000 in
theorem shrink_ok (N0 : Nat) (c z : Nat) (ly : Ly) (sz : Int) (m : Nat) (bs : List Nat) (ss : List Sl) (mn lw hi : Int) (k : Nat) (nb fm tm : Nat → Nat) (nd : Nat → Nd) (fr : Nat → List Nat) (x q : Int) (e : Nat → Addr) (w0 w : World) (he0 : Errs w0 e) (hb0 : Below w0.heap.size w0 w) (hN0 : w0.heap.size ≤ N0) (h : PS N0 w c z ly sz m bs ss mn lw hi k nb fm tm nd fr) :
    Calls Tryz.prog 17 #[ptr c, .int .i64 x, .int .i64 q] w fun ev w' => ShS N0 c z ly sz m bs ss mn lw hi k nb fm tm nd fr x q e w ev w' := by
  have F1 := ballo (Below.refl w.heap.size w) (.cells #[.int .i64 x] 3)
  have hb1 := btr hb0 F1
  have P1 := h.b F1
  have q0 := World.cell?_alloc_new w #[.int .i64 x] 3 0
  simp only [List.getElem?_toArray, List.getElem?_cons_zero] at q0
  have tg := tag_new w #[.int .i64 x] 3
  have HEC : Hid (∀ w', Chg K4 N0 (w.alloc (.cells #[.int .i64 x] 3)) w' → Errs w' e) := fun w' hc => errs_chg he0 hb1 hc hN0
  have he := he0.below hb1
  have HCH := hide (chas_ok c z mn lw hi k nb fm tm nd fr x _ e he.three P1.d P1.c.c0)
  have hlen := sl_len P1
  have RN : Hid (∀ w', PS N0 w' c z ly sz m bs ss mn lw hi k nb fm tm nd fr → Chg K4 N0 w w' → (¬ (0 ≤ x ∧ x < k) ∨ q < 0) → ShS N0 c z ly sz m bs ss mn lw hi k nb fm tm nd fr x q e w (.returned (.tuple #[.int .i64 0, errV (e 1)])) w') := fun w' h1 h2 h3 => .no w' h1 h2 h3
  have RY : Hid (∀ (x' g : Nat) (bs' : List Nat) (ss' : List Sl) (nd' : Nat → Nd) w', x = (x' : Nat) → x' < k → 0 ≤ q → shr x' q ss.length 0 bs ss nd = (g, bs', ss', nd') → PS N0 w' c z ly sz m bs' ss' mn lw hi k nb fm tm nd' fr → Chg K4 N0 w w' → ShS N0 c z ly sz m bs ss mn lw hi k nb fm tm nd fr x q e w (.returned (.tuple #[.int .i64 g, .nilIface])) w') := fun x' g bs' ss' nd' w' h1 h2 h3 h4 h5 h6 => .yes x' g bs' ss' nd' w' h1 h2 h3 h4 h5 h6
  have HE := hide he
  have HP1 := hide P1
  have HF1 := hide F1
  have HTG := hide tg
  clear he h F1 P1 he0 hb0 hb1 tg
  generalize ShS N0 c z ly sz m bs ss mn lw hi k nb fm tm nd fr x q e w = TR at *
  unfold ptr at *
  go_enter Tryz.func17, Tryz.ntmps17
  go_upto_region 1 with (fail)
  generalize w.alloc (.cells #[.int .i64 x] 3) = W at *
  go_wp2_with fail
  refine (unhide HCH).mono ?_
  rintro ev w1 ⟨rfl, b1⟩
  have F2 := btr (unhide HF1) b1
  have P2 := (unhide HP1).b b1
  have hwl := World.block_lt_of_cell? W _ q0
  simp only at hwl
  have q1 := (b1.cell (p := ⟨w.heap.size, 0, none⟩) hwl).trans q0
  clear HCH HP1
  by_cases hx : 0 ≤ x ∧ x < k
  · rw [show decide (0 ≤ x ∧ x < k) = true by simpa using hx]
    by_cases hq : q < 0
    · have E2 := ((unhide HE).below b1).v1
      have HP2 := hide P2
      have HC2 : Hid (Chg K4 N0 w w1) := Chg.below F2
      clear RY P2 F2
      unfold errV at *
      go_wp2_with fail
      go_region
      go_wp2
      exact (unhide RN) _ ((unhide HP2).b (drw _)) (unhide HC2).drew (Or.inr hq)
    · obtain ⟨x', rfl⟩ := Int.eq_ofNat_of_zero_le hx.1
      have hxk : x' < k := by omega
      obtain ⟨R, hR⟩ : ∃ R, R = shr x' q ss.length 0 bs ss nd := ⟨_, rfl⟩
      have HRY : Hid (∀ (g : Nat) (bs' : List Nat) (ss' : List Sl) (nd' : Nat → Nd) w', R = (g, bs', ss', nd') → PS N0 w' c z ly sz m bs' ss' mn lw hi k nb fm tm nd' fr → Chg K4 N0 W w' → TR (.returned (.tuple #[.int .i64 g, .nilIface])) w') := fun g bs' ss' nd' w' h1 h2 h3 => (unhide RY) x' g bs' ss' nd' w' rfl hxk (by omega) (hR.symm.trans h1) h2 ((Chg.below (unhide HF1)).trans h3)
      have HL0 : Hid (LR N0 W c z ly sz m mn lw hi k nb fm tm fr x' q R ss.length 0 bs ss nd w1) := ⟨P2, Chg.below b1, Nat.le_refl _, hR.symm, by omega⟩
      have HQ : Hid (∀ wr, Chg K4 N0 W wr → wr.cell? ⟨w.heap.size, 0, none⟩ = some (.int .i64 (x' : Int))) := fun wr hc => (World.cell?_of_block (a := ⟨w.heap.size, 0, none⟩) (hc.same (unhide HTG) (by decide))).trans q0
      obtain ⟨p, d, e2, _⟩ := P2.c.c2
      have hnl := P2.c.len
      have hwr : IntKind.i64.wrap ((ss.length : Int) - 1) = ss.length - 1 := IntWalk.i64_in _ (by omega)
      rw [hnl] at e2
      clear RY RN P2 F2 hR hnl q0 q1 HTG HF1 b1
      go_wp2_with fail
      clear e2
      go_loopw [10, 9] (fun s10 s9 wr => ∃ (j g : Nat) (bs' : List Nat) (ss' : List Sl) (nd' : Nat → Nd), s10 = .int .i64 ((j : Int) - 1) ∧ s9 = .int .i64 g ∧ Hid (LR N0 W c z ly sz m mn lw hi k nb fm tm fr x' q R j g bs' ss' nd' wr)) (fun s10 _ _ => (RowKit.intOf s10 + 1).toNat)
      case atStart => exact ⟨_, 0, bs, ss, nd, rfl, rfl, HL0⟩
      case round =>
        obtain ⟨j, g, bs', ss', nd', rfl, rfl, HL⟩ := hrel
        have hq0 := (unhide HQ) wr (unhide HL).ch
        rcases j with _ | j
        · rw [show ((0 : Nat) : Int) - 1 = -1 from rfl]
          have HE1 : Hid (R = (g, bs', ss', nd')) := (unhide HL).st.symm
          go_wp2
          exact (unhide HRY) g bs' ss' nd' _ (unhide HE1) (unhide HL).p (unhide HL).ch
        · rw [show (((j + 1 : Nat)) : Int) - 1 = (j : Int) by omega]
          have hj0 : (0 : Int) ≤ j := by omega
          by_cases hg : (g : Int) < q
          · obtain ⟨b, s, eb, es, hS, hok⟩ := (unhide HL).p.c.slab (i := j) (by have := (unhide HL).le; omega)
            have hlen' := sl_len (unhide HL).p
            have hle := (unhide HL).le
            have hgj := (unhide HL).gj
            have hj1 : (j : Int) < ss'.length := by omega
            obtain ⟨gg, d', e2', o2', hgl, hgN, hrow⟩ := (unhide HL).p.c.row (by omega)
            have rb := hrow j b eb
            have HST : Hid (shr x' q (j + 1) g bs' ss' nd' = if emp x' s then shr x' q j (g + 1) (bs'.eraseIdx j) (ss'.eraseIdx j) (up nd' x' (gaveD (s.at_, 0) (nd' x'))) else shr x' q j g bs' ss' nd') := by
              unfold Hid
              rw [shr, if_pos hg, getD_at es]
            have HEM := hide (empty_ok b w.heap.size s x' wr hq0 hS.c0 hS.c3)
            have HO := hide o2'
            have HS := hide hS
            have HEB := hide eb
            have HES := hide es
            clear hrow o2' hS eb es hok hlen
            have hwj : IntKind.i64.wrap ((j : Int) - 1) = j - 1 := IntWalk.i64_in _ (by omega)
            cases hem : emp x' s with
            | false =>
              rw [hem] at HEM
              have HN : Hid (shr x' q j g bs' ss' nd' = R) := by
                have h1 := unhide HST
                rw [hem, if_neg (by decide)] at h1
                exact h1.symm.trans (unhide HL).st
              clear HST
              unfold ptr at *
              go_wp2_with (go_at_call 59; refine (unhide HEM).mono ?_; rintro ev w3 ⟨rfl, b3⟩)
              have HL3 : Hid (LR N0 W c z ly sz m mn lw hi k nb fm tm fr x' q R j g bs' ss' nd' w3) := ⟨(unhide HL).p.b b3, (unhide HL).ch.trans (Chg.below b3), by omega, unhide HN, by omega⟩
              clear b3 HL HO HS HEM HN
              go_roundw
              case rel => exact ⟨j, g, bs', ss', nd', by go_num, rfl, HL3⟩
              case measure => simp [RowKit.intOf]
            | true =>
              rw [hem] at HEM
              have hem' : (s.nd : Int) = x' ∧ s.bm = 0 := by simpa [emp] using hem
              have hsx : s.nd = x' := by omega
              have hT : (s.at_, 0) ∈ (nd' x').T ∧ s.nd < k := by
                have := (unhide HL).p.ow s (List.mem_of_getElem? (unhide HES))
                rw [hsx] at this
                exact ⟨this.2, by omega⟩
              have hE0 : gaveE (s.at_, 0) (nd' x') = 0 := by rw [gaveE, if_pos hT.1]
              have HN : Hid (shr x' q j (g + 1) (bs'.eraseIdx j) (ss'.eraseIdx j) (up nd' x' (gaveD (s.at_, 0) (nd' x'))) = R) := by
                have h1 := unhide HST
                rw [hem, if_pos rfl] at h1
                exact h1.symm.trans (unhide HL).st
              have hok := (unhide HL).p.c.ok s (List.mem_of_getElem? (unhide HES))
              have hwg : IntKind.i64.wrap ((g : Int) + 1) = g + 1 := IntWalk.i64_in _ (by omega)
              have hwk : IntKind.i64.wrap ((j : Int) + 1) = j + 1 := IntWalk.i64_in _ (by omega)
              have HZ := hide (fun w4 (hb : Below wr.heap.size wr w4) => zgive_ok z mn lw hi k nb fm tm nd' fr x' s.at_ 0 w4 e ((unhide HEC) w4 ((unhide HL).ch.trans (Chg.below hb))).three ((unhide HL).p.b hb).d hxk (wf_small hok.1 hok.2.1))
              clear HST
              unfold ptr at *
              go_upto_region 10 with (go_at_call 59; refine (unhide HEM).mono ?_; rintro ev w3 ⟨rfl, b3⟩)
              have b3d := btr b3 (drw w3)
              have D3 := (unhide HL).p.b b3d
              have S3 := (unhide HS).b b3d
              have HZ3 := (unhide HZ) w3.drew b3d
              generalize errC e (gaveE (s.at_, 0) (nd' x')) = ee at HZ3
              unfold plV at HZ3
              have HZ3 := hide HZ3
              have HKK : Hid (∀ w4, Kept (fm x') (tm x') w3.drew w4 → Chg [none] N0 w3.drew w4) := fun w4 hk => Chg.maps hk (D3.d.bd x' hxk).f (D3.d.bd x' hxk).t (D3.mf x' hxk).1 (D3.mf x' hxk).2
              have HS4 : Hid (∀ w4, Chg [none] N0 w3.drew w4 → w4.cell? ⟨c, 0, none⟩ = some (.pointer (some ⟨z, 0, none⟩)) ∧ w4.cell? ⟨b, 0, none⟩ = some (.int .i64 (x' : Int)) ∧ w4.cell? ⟨b, 1, none⟩ = some (.int .i64 s.at_) ∧ w4.cell? ⟨b, 2, none⟩ = some (.int .i64 0)) := fun w4 hc =>
                ⟨(World.cell?_of_block (a := ⟨c, 0, none⟩) (hc.same D3.c.tg (by decide))).trans D3.c.c0, (World.cell?_of_block (a := ⟨b, 0, none⟩) (hc.same S3.tg (by decide))).trans (by rw [← hsx]; exact S3.c0), (World.cell?_of_block (a := ⟨b, 1, none⟩) (hc.same S3.tg (by decide))).trans S3.c1, (World.cell?_of_block (a := ⟨b, 2, none⟩) (hc.same S3.tg (by decide))).trans S3.c2⟩
              have HD3 := hide D3
              have HC3 : Hid (Chg K4 N0 W w3.drew) := (unhide HL).ch.trans (Chg.below b3d)
              clear b3d b3 D3 S3 HZ HS HEM HO rb e2' hq0 HQ
              go_region_held3 (fun w' => w'.cell? ⟨c, 0, none⟩ = some (.pointer (some ⟨z, 0, none⟩)) ∧ w'.cell? ⟨b, 0, none⟩ = some (.int .i64 (x' : Int)) ∧ w'.cell? ⟨b, 1, none⟩ = some (.int .i64 s.at_) ∧ w'.cell? ⟨b, 2, none⟩ = some (.int .i64 0)) ((first | (go_keep; done) | (exact (unhide HS4) _ (Chg.refl _ _ _)) | (exact (unhide HS4) _ ((unhide HKK) _ (by assumption))))) ((go_at_call 60; refine (unhide HZ3).mono ?_; rintro ev w4 ⟨rfl, dz4, k4⟩))
              have hC4 : Chg [none] N0 w3.drew w4 := (unhide HKK) w4 k4
              have D4 := (unhide HD3).c.same (hC4.toSame (by simp)) (k4.block _ (unhide HD3).c.ym.lt ((unhide HD3).ml x' hxk).1 ((unhide HD3).ml x' hxk).2)
              have HC4 : Hid (Chg K4 N0 W w4) := (unhide HC3).trans (hC4.mono (by decide) (Nat.le_refl _))
              have HOW : Hid (Ow k (up nd' x' (gaveD (s.at_, 0) (nd' x'))) (ss'.eraseIdx j)) := by
                have h1 := Ow.del (unhide HL).p.ow (unhide HL).p.c.so (unhide HES)
                rw [hsx] at h1
                exact h1
              have HMF := hide (unhide HL).p.mf
              have hk4 := (unhide HL).p.k4
              have HML := hide (unhide HL).p.ml
              have HDZ := hide dz4
              obtain ⟨p4, d4, e4, o4⟩ := D4.c2
              have hnl := D4.len
              have HDL := hide (del_own N0 p4 bs'.length d4 j (ptrl bs') w4 o4 (by omega) (ptrl_one bs'))
              rw [hnl] at HDL
              have hne5 : some c ≠ (Value.slice p4 ss'.length d4).ownBlock := fun e => by
                rcases o4.2 with ⟨e2, _⟩ | ⟨g, cap, cur, e2, hg, hh, _⟩
                · rw [hnl] at e2; rw [e2] at e; cases e
                · rw [hnl] at e2
                  rw [e2] at e
                  simp only [Value.ownBlock, Option.some.injEq] at e
                  subst e
                  exact D4.tg.ne ⟨cur, _, hh⟩ (by decide) rfl
              have HC5 : Hid (∀ w5, w4.grownBy w5 (Value.slice p4 ss'.length d4).ownBlock → w5.cell? ⟨c, 2, none⟩ = some (.slice p4 ss'.length d4) ∧ w5.frozen? ⟨c, 2, none⟩ = false) := fun w5 hg => by
                have e := hg.block c D4.tg.lt hne5
                exact ⟨(World.cell?_of_block (a := ⟨c, 2, none⟩) e).trans (by rw [← hnl]; exact e4), (World.frozen?_of_block (a := ⟨c, 2, none⟩) e).trans (D4.cf 2)⟩
              have HPD : Hid (∀ w5, w4.grownBy w5 (Value.slice p4 ss'.length d4).ownBlock → w5.ownsRow N0 116 1 (.slice p4 (ss'.length - 1) d4) (ss'.length - 1) ((ptrl bs').eraseIdx j) → PS N0 (w5.setCell ⟨c, 2, none⟩ (.slice p4 (ss'.length - 1) d4)) c z ly sz m (bs'.eraseIdx j) (ss'.eraseIdx j) mn lw hi k nb fm tm (up nd' x' (gaveD (s.at_, 0) (nd' x'))) fr ∧ Chg K4 N0 w4 (w5.setCell ⟨c, 2, none⟩ (.slice p4 (ss'.length - 1) d4))) := fun w5 hg ho => by
                have h1 := PS.del (w5 := w5) (unhide HDZ) D4 (unhide HOW) (unhide HMF) hk4 (unhide HML) (j := j) (by omega) e4 o4 (by rw [hnl]; exact hg) (by rw [hnl]; exact ho)
                rw [hnl] at h1
                exact h1
              have hd3 := (unhide HL).p.c.len
              rw [hnl] at e4
              have hl1 : (ss'.eraseIdx j).length = ss'.length - 1 := by rw [List.length_eraseIdx, if_pos (by omega)]
              clear hC4 D4 o4 hne5 hnl HL HES HEB HD3 HC3 HKK HS4 HZ3 dz4 k4 HOW HMF HML HDZ hk4 hT hE0 hok
              unfold ptr at *
              go_wp2_with (go_at_call 61; refine (unhide HDL).mono ?_; rintro ev w5 ⟨rfl, o5, g5⟩; obtain ⟨c5, f5⟩ := (unhide HC5) w5 g5)
              have HL5 : Hid (LR N0 W c z ly sz m mn lw hi k nb fm tm fr x' q R j (g + 1) (bs'.eraseIdx j) (ss'.eraseIdx j) (up nd' x' (gaveD (s.at_, 0) (nd' x'))) (w5.setCell ⟨c, 2, none⟩ (.slice p4 (ss'.length - 1) d4))) := ⟨((unhide HPD) w5 g5 o5).1, (unhide HC4).trans ((unhide HPD) w5 g5 o5).2, by omega, unhide HN, by omega⟩
              clear HPD HC4 HDL HC5 HN g5 o5 e4 c5 f5
              go_roundw
              case rel => exact ⟨j, g + 1, _, _, _, by go_num, by go_num, HL5⟩
              case measure => simp [RowKit.intOf]
          · have HE1 : Hid (R = (g, bs', ss', nd')) := by
              have h1 := (unhide HL).st
              rw [shr, if_neg hg] at h1
              exact h1.symm
            go_wp2
            exact (unhide HRY) g bs' ss' nd' _ (unhide HE1) (unhide HL).p (unhide HL).ch
  · have E2 := ((unhide HE).below b1).v1
    rw [show decide (0 ≤ x ∧ x < k) = false by simpa using hx]
    have HP2 := hide P2
    have HC2 : Hid (Chg K4 N0 w w1) := Chg.below F2
    have HX := hide hx
    clear RY P2 F2 hx
    unfold errV at *
    go_wp2_with fail
    go_region
    go_wp2
    exact (unhide RN) _ ((unhide HP2).b (drw _)) (unhide HC2).drew (Or.inl (unhide HX))
end Sb
end Go.Proofs.YtfefehkapffljaaGreatDoor
