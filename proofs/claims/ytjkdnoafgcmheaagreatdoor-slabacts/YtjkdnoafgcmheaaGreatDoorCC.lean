/- The document's answer's zone and cache in one memory · The document's answer's Shrink, by contract. -/
import Derived.Test.YtjkdnoafgcmheaaGreatDoorCA
import Derived.Test.YtjkdnoafgcmheaaGreatDoorKL
import Derived.Test.YtjkdnoafgcmheaaGreatDoorGM
import Derived.Test.YtjkdnoafgcmheaaGreatDoorKN
import Derived.Deep.RegionHeld3
namespace Go.Proofs.YtjkdnoafgcmheaaGreatDoor
open Go.RowKit Go.Maps
namespace Sb
open Fr Bd Zn Dz
theorem rl_same {w w' : World} {b : Nat} {v : Value} {L : List Bl} (h : RL w b v L) (hs : Same [71] w w') (hz : w.heap.size ≤ w'.heap.size) : RL w' b v L := by
  rcases h with h | ⟨g, c, hv, h0, h1, h2, h3, hr⟩
  · exact Or.inl h
  · have hb := hs g 71 (by simp) hr.tg
    refine Or.inr ⟨g, c, hv, h0, h1, h2, h3, ⟨⟨fun i hi => ?_, fun o ho => ?_, Nat.lt_of_lt_of_le hr.lt hz⟩, hr.tg.blk hb⟩⟩
    · exact ⟨(World.cell?_of_block (w := w) (a := ⟨g, i * 2, none⟩) hb).trans (hr.c i hi).1, (World.cell?_of_block (w := w) (a := ⟨g, i * 2 + 1, none⟩) hb).trans (hr.c i hi).2⟩
    · exact (World.frozen?_of_block (w := w) (a := ⟨g, o, none⟩) hb).trans (hr.fz o ho)
theorem rb_same {w w' : World} {b : Nat} {N : Int} {F T : List Bl} (h : RB w b N F T) (hs : Same [71] w w') (hb : w'.heap[b]? = w.heap[b]?) (hz : w.heap.size ≤ w'.heap.size) : RB w' b N F T := by
  obtain ⟨v1, e1, l1⟩ := h.c1
  obtain ⟨v2, e2, l2⟩ := h.c2
  have fr : ∀ o, w'.frozen? ⟨b, o, none⟩ = w.frozen? ⟨b, o, none⟩ := fun o => World.frozen?_of_block (w := w) (a := ⟨b, o, none⟩) hb
  have cl : ∀ o, w'.cell? ⟨b, o, none⟩ = w.cell? ⟨b, o, none⟩ := fun o => World.cell?_of_block (w := w) (a := ⟨b, o, none⟩) hb
  exact ⟨(cl 0).trans h.c0, ⟨v1, (cl 1).trans e1, rl_same l1 hs hz⟩, ⟨v2, (cl 2).trans e2, rl_same l2 hs hz⟩, (fr 1).trans h.f1, (fr 2).trans h.f2, Nat.lt_of_lt_of_le h.lt hz, h.tg.blk hb⟩
/-- The document's answer's zone, where none of its blocks' types turn. -/
theorem rz_same {w w' : World} {z : Nat} {mn lw hi : Int} {k : Nat} {nb : Nat → Nat} {nd : Nat → Nd} {fr : Nat → List Nat} (h : RZ w z mn lw hi k nb nd fr) (hs : Same [136, 137, 22, 3, 213, 71] w w') (hz : w.heap.size ≤ w'.heap.size) : RZ w' z mn lw hi k nb nd fr := by
  have cl := fun j => cell_same hs (by simp) h.tg j
  obtain ⟨g, c, e1, o1⟩ := h.cn
  obtain ⟨g2, c2, rows, e2, o2, r2⟩ := h.cf
  have h71 : Same [71] w w' := fun b t hm ht => hs b t (by simp at hm; simp [hm]) ht
  refine ⟨(cl 2).trans h.m2, (cl 3).trans h.m3, (cl 4).trans h.m4, ⟨g, c, (cl 5).trans e1, own_same o1 hs (by simp)⟩, ⟨g2, c2, rows, (cl 6).trans e2, own_same o2 hs (by simp), fun i hi => ?_⟩, tag_same hs (by simp) h.tg, fun i hi => rb_same (h.rb i hi) h71 (hs _ 213 (by simp) (h.rb i hi).tg) hz, h.ok, h.ne⟩
  obtain ⟨h', d, e3, o3⟩ := r2 i hi
  exact ⟨h', d, e3, own_same o3 hs (by simp)⟩
/-- The document's answer's zone and cache. -/
structure RR (N0 : Nat) (w : World) (c z : Nat) (sz : Int) (m : Nat) (bs ts : List Nat) (ss : List Sl) (mn lw hi : Int) (k : Nat) (nb : Nat → Nat) (nd : Nat → Nd) (fr : Nat → List Nat) : Prop where
  hz : RZ w z mn lw hi k nb nd fr
  hc : RC N0 w c z sz m bs ts ss
  g : ∀ i, i < k → N0 ≤ nb i
  r : ∀ g cp, w.cell? ⟨z, 5, none⟩ = some (.slice (some ⟨g, 0, none⟩) k cp) → N0 ≤ g
/-- All kinds that the document's answer turns. -/
abbrev R4 : List (Option TypeId) := [some 213, some 137, some 66, some 140, some 4]
section
variable {N0 : Nat} {w w' : World} {c z : Nat} {sz : Int} {m : Nat} {bs ts : List Nat} {ss : List Sl} {mn lw hi : Int} {k : Nat} {nb : Nat → Nat} {nd : Nat → Nd} {fr : Nat → List Nat}
theorem RR.b (h : RR N0 w c z sz m bs ts ss mn lw hi k nb nd fr) (hb : Below w.heap.size w w') : RR N0 w' c z sz m bs ts ss mn lw hi k nb nd fr :=
  ⟨h.hz.b hb, h.hc.b hb, h.g, fun g cp hc => h.r g cp ((hb.cell (p := ⟨z, 5, none⟩) h.hz.tg.lt).symm.trans hc)⟩
theorem RR.chg (h : RR N0 w c z sz m bs ts ss mn lw hi k nb nd fr) {tl : List (Option TypeId)} {N : Nat} (hc : Chg tl N w w') (hn : ∀ t ∈ ([136, 137, 22, 3, 213, 71, 66, 140, 143, 4] : List TypeId), some t ∉ tl) : RR N0 w' c z sz m bs ts ss mn lw hi k nb nd fr :=
  ⟨rz_same h.hz (hc.toSame (fun t ht => hn t ((by decide : ∀ t ∈ ([136, 137, 22, 3, 213, 71] : List TypeId), t ∈ ([136, 137, 22, 3, 213, 71, 66, 140, 143, 4] : List TypeId)) t ht))) hc.size, h.hc.same (hc.toSame (fun t ht => hn t ((by decide : ∀ t ∈ ([66, 140, 143, 4] : List TypeId), t ∈ ([136, 137, 22, 3, 213, 71, 66, 140, 143, 4] : List TypeId)) t ht))), h.g, fun g cp e => h.r g cp ((World.cell?_of_block (w := w) (a := ⟨z, 5, none⟩) (hc.same h.hz.tg (hn 136 (by simp)))).symm.trans e)⟩
/-- The zone's node's buddies turn. -/
theorem RR.turnZ (h : RR N0 w c z sz m bs ts ss mn lw hi k nb nd fr) {x : Nat} (hx : x < k) (hk : Kept (nb x) (nb x) w w') {nd' : Nat → Nd} (hz : RZ w' z mn lw hi k nb nd' fr) : RR N0 w' c z sz m bs ts ss mn lw hi k nb nd' fr ∧ Chg R4 N0 w w' := by
  have ht := (h.hz.rb x hx).tg
  have hc : Chg [some 213] N0 w w' := Chg.one hk ht (h.g x hx)
  refine ⟨⟨hz, h.hc.same (hc.toSame (by decide)), h.g, fun g cp e => h.r g cp ((World.cell?_of_block (w := w) (a := ⟨z, 5, none⟩) (hc.same h.hz.tg (by decide))).symm.trans e)⟩, hc.mono (by decide) (Nat.le_refl _)⟩
/-- The cache turns: other rows than the zone's. -/
theorem RR.turnC (h : RR N0 w c z sz m bs ts ss mn lw hi k nb nd fr) {bs' ts' : List Nat} {ss' : List Sl} (hc : Chg [some 66, some 140, some 4] N0 w w') (hC : RC N0 w' c z sz m bs' ts' ss') : RR N0 w' c z sz m bs' ts' ss' mn lw hi k nb nd fr :=
  ⟨rz_same h.hz (hc.toSame (by decide)) hc.size, hC, h.g, fun g cp e => h.r g cp ((World.cell?_of_block (w := w) (a := ⟨z, 5, none⟩) (hc.same h.hz.tg (by decide))).symm.trans e)⟩
/-- A row of slabs anew. -/
theorem RC.row_new (h : RC N0 w c z sz m bs ts ss) (hb : Below w.heap.size w w') {bs' ts' : List Nat} {ss' : List Sl} {v : Value} {n : Nat} (hv : ∃ p d, v = .slice p n d) (hn : n = bs'.length) (ho : w'.ownsRow w.heap.size 140 1 v n (ptrl bs')) (hN : N0 ≤ w.heap.size) (hl : bs'.length = ss'.length) (hlt : ts'.length = ss'.length) (htn : ts'.Nodup) (hgt : ∀ t ∈ ts', N0 ≤ t) (hsl : ∀ (i b t : Nat) (s : Sl), bs'[i]? = some b → ts'[i]? = some t → ss'[i]? = some s → RSl w' b t m s) : RC N0 (w'.setCell ⟨c, 2, none⟩ v) c z sz m bs' ts' ss' ∧ Chg [some 66] N0 w (w'.setCell ⟨c, 2, none⟩ v) := by
  obtain ⟨p, d, rfl⟩ := hv
  subst hn
  have h' := h.b hb
  have ht := h'.tg
  have hc : Chg [some 66] N0 w' (w'.setCell ⟨c, 2, none⟩ (.slice p bs'.length d)) := Chg.set ht h'.ge 2 _
  have hsm : Same [140, 143, 4] w' (w'.setCell ⟨c, 2, none⟩ (.slice p bs'.length d)) := hc.toSame (by decide)
  have ho2 : w'.ownsRow N0 140 1 (.slice p bs'.length d) bs'.length (ptrl bs') := by
    refine ⟨ho.1, ?_⟩
    rcases ho.2 with h2 | ⟨g, cap, cur, h1, h2, h3⟩
    · exact Or.inl h2
    · exact Or.inr ⟨g, cap, cur, h1, Nat.le_trans hN h2, h3⟩
  obtain ⟨p0, d0, e2, _⟩ := h'.c2
  refine ⟨⟨(cso (by simp)).trans h'.c0, (cso (by simp)).trans h'.c1, ⟨p, d, css e2, own_same ho2 hsm (by simp)⟩, ht.set _ _, h'.ge, hl, hlt, htn, hgt, fun i b t s e1 e2 e3 => ?_, fun o => by rw [World.frozen?_setCell]; exact h'.cf o⟩, (Chg.below hb).trans hc⟩
  have hS := hsl i b t s e1 e2 e3
  exact hS.same (hsm b 143 (by simp) hS.tg) (hsm t 4 (by simp) hS.tt)
end
end Sb
end Go.Proofs.YtjkdnoafgcmheaaGreatDoor
namespace Go.Proofs.YtjkdnoafgcmheaaGreatDoor
open Go.RowKit Go.Maps
namespace Sb
open Fr Bd Zn Dz
theorem info140 : (Tryz.prog.info? 140).map (fun i => (i.zero, i.size, i.bytes)) = some (some (.pointer none), 1, 8) := by kernel_rfl
theorem ptrl_one' (bs : List Nat) : ∀ v ∈ ptrl bs, v.oneCell' = true := fun v hv => by
  obtain ⟨b, _, rfl⟩ := List.mem_map.mp hv
  rfl
theorem ptrl_len (bs : List Nat) : (ptrl bs).length = bs.length := List.length_map ..
/-- The cells of a part of a row of pointers. -/
theorem news_ptr {w : World} {g a : Nat} {bs cs : List Nat} (hr : ∀ i b, bs[i]? = some b → w.cell? ⟨g, i, none⟩ = some (ptr b)) (hc : ∀ j b, cs[j]? = some b → bs[a + j]? = some b) : ∀ j u, (ptrl cs)[j]? = some u → w.cell? ((⟨g, a, none⟩ : Addr).add j) = some u := fun j u h => by
  rw [add_at]
  simp only [ptrl, List.getElem?_map, Option.map_eq_some_iff] at h
  obtain ⟨b, h1, rfl⟩ := h
  exact hr _ _ (hc j b h1)
theorem news_below {w w' : World} {g a : Nat} {cs : List Value} (hg : g < w.heap.size) (hb : Below w.heap.size w w') (h : ∀ j u, cs[j]? = some u → w.cell? ((⟨g, a, none⟩ : Addr).add j) = some u) : ∀ j u, cs[j]? = some u → w'.cell? ((⟨g, a, none⟩ : Addr).add j) = some u := fun j u hu => by
  have := h j u hu
  rw [add_at] at this ⊢
  exact (hb.cell (p := ⟨g, a + j, none⟩) hg).trans this
theorem pop_eq_zero {x m : Nat} (h : x < 2 ^ m) (h0 : pop x m = 0) : x = 0 := Nat.eq_of_testBit_eq fun i => by
  rw [Nat.zero_testBit]
  rcases Nat.lt_or_ge i m with hi | hi
  · exact pop_zero h0 i hi
  · exact Nat.testBit_lt_two_pow (Nat.lt_of_lt_of_le h (Nat.pow_le_pow_right (by omega) hi))
theorem RC.row2 {N0 : Nat} {w : World} {c z : Nat} {sz : Int} {m : Nat} {bs ts : List Nat} {ss : List Sl} (h : RC N0 w c z sz m bs ts ss) (hn : 0 < ss.length) : ∃ g d, w.cell? ⟨c, 2, none⟩ = some (.slice (some ⟨g, 0, none⟩) ss.length d) ∧ g < w.heap.size ∧ ss.length ≤ d ∧ d ≤ maxLen ∧ ∀ i b, bs[i]? = some b → w.cell? ⟨g, i, none⟩ = some (ptr b) := by
  obtain ⟨g, d, e2, hg, hr⟩ := h.row hn
  obtain ⟨p, d2, e2', o2⟩ := h.c2
  rw [e2, h.len] at e2'
  simp only [Option.some.injEq, Value.slice.injEq, true_and] at e2'
  obtain ⟨rfl, rfl⟩ := e2'
  rcases o2.2 with ⟨e, _⟩ | ⟨g', cap, cur, e, _, _, h1, h2, _⟩
  · cases e
  · simp only [Value.slice.injEq, true_and] at e
    obtain ⟨_, rfl⟩ := e
    exact ⟨g, d, e2, hg, by rw [← h.len]; exact h1, h2, hr⟩
theorem own_slice {w : World} {b e size n : Nat} {v : Value} {xs : List Value} (h : w.ownsRow b e size v n xs) : ∃ p d, v = .slice p n d := by
  rcases h.2 with ⟨rfl, rfl⟩ | ⟨g, cap, cur, e, _⟩
  · exact ⟨none, 0, rfl⟩
  · exact ⟨_, _, e⟩
/-- What a round of the document's answer's Shrink keeps. -/
structure ShI (N0 : Nat) (w : World) (c z : Nat) (sz : Int) (m : Nat) (ss0 : List Sl) (mn lw hi : Int) (k : Nat) (nb : Nat → Nat) (nd0 : Nat → Nd) (fr : Nat → List Nat) (x : Nat) (q : Int) (j g : Nat) (bs ts : List Nat) (ss : List Sl) (nd : Nat → Nd) (wr : World) : Prop where
  r : RR N0 wr c z sz m bs ts ss mn lw hi k nb nd fr
  ch : Chg R4 N0 w wr
  jl : j ≤ ss.length
  gl : g + ss.length ≤ ss0.length
  ok : ∀ s ∈ ss, sok m s
  e : ∀ bx, ∃ bx', shr x q ss0.length 0 bx ss0 nd0 = shr x q j g bx' ss nd
set_option maxRecDepth 100000 in
set_option maxHeartbeats 16000000 in
theorem rshrink_ok (N0 : Nat) (c z : Nat) (sz : Int) (m : Nat) (bs ts : List Nat) (ss0 : List Sl) (mn lw hi : Int) (k : Nat) (nb : Nat → Nat) (nd0 : Nat → Nd) (fr : Nat → List Nat) (x : Nat) (q : Int) (w : World) (h : RR N0 w c z sz m bs ts ss0 mn lw hi k nb nd0 fr) (hok : ∀ s ∈ ss0, sok m s) (hx : x < k) (hm : m ≤ 64) (hn : ss0.length ≤ 10000) (hN : N0 ≤ w.heap.size) :
    Calls Tryz.prog 30 #[ptr c, .int .i64 x, .int .i64 q] w fun ev w' => ∃ g bs' ts' ss' nd', ev = .returned (.int .i64 (g : Nat)) ∧ RR N0 w' c z sz m bs' ts' ss' mn lw hi k nb nd' fr ∧ Chg R4 N0 w w' ∧ ∀ bx, ∃ bx', shr x q ss0.length 0 bx ss0 nd0 = (g, bx', ss', nd') := by
  obtain ⟨i0, hi0, hz0, hz1, hz2⟩ := info_parts info140
  have HI := hide hi0
  have HZ := hide hz0
  have HZ1 := hide hz1
  have HZ2 := hide hz2
  have H0 : Hid (ShI N0 w c z sz m ss0 mn lw hi k nb nd0 fr x q ss0.length 0 bs ts ss0 nd0 w) := ⟨h, Chg.refl _ _ _, Nat.le_refl _, by omega, hok, fun bx => ⟨bx, rfl⟩⟩
  obtain ⟨p, d, e2, _⟩ := h.hc.c2
  rw [h.hc.len] at e2
  clear hi0 hz0 hz1 hz2 h hok
  unfold ptr at *
  go_enter Tryz.func30, Tryz.ntmps30
  go_wp2_with fail
  clear e2
  go_loopw [7, 8] (fun s7 s8 wr => ∃ (j g : Nat) (bs ts : List Nat) (ss : List Sl) (nd : Nat → Nd), s7 = .int .i64 g ∧ s8 = .int .i64 ((j : Int) - 1) ∧ Hid (ShI N0 w c z sz m ss0 mn lw hi k nb nd0 fr x q j g bs ts ss nd wr)) (fun _ s8 _ => (RowKit.intOf s8 + 1).toNat)
  case atStart => exact ⟨ss0.length, 0, bs, ts, ss0, nd0, rfl, rfl, H0⟩
  case round =>
    clear H0
    obtain ⟨j, g, bs, ts, ss, nd, rfl, rfl, hS⟩ := hrel
    cases j with
    | zero =>
      have d1 : decide (((0 : Nat) : Int) - 1 ≥ 0) = false := by decide
      have HE : Hid (∀ bx, ∃ bx', shr x q ss0.length 0 bx ss0 nd0 = (g, bx', ss, nd)) := (unhide hS).e
      go_wp2_with fail
      go_ret
      exact ⟨g, bs, ts, ss, nd, rfl, (unhide hS).r, (unhide hS).ch, unhide HE⟩
    | succ j =>
      have hjl := (unhide hS).jl
      have hgl := (unhide hS).gl
      have hj1 : (((j + 1 : Nat) : Int) - 1) = (j : Int) := by omega
      rw [hj1]
      have d1 : decide ((j : Int) ≥ 0) = true := by simp
      obtain ⟨b, t, s, eb, et, es, hSl⟩ := (unhide hS).r.hc.slab (i := j) (by omega)
      obtain ⟨gr, d', e2, hg, cg⟩ := (unhide hS).r.hc.row (by omega)
      have cgb := cg j b eb
      unfold ptr at cgb
      have hj0 : (0 : Int) ≤ j := by omega
      have hjs : (j : Int) < ss.length := by omega
      have hsok := (unhide hS).ok s (List.mem_of_getElem? es)
      have HM := hide (many_ok b t m s wr hSl hm)
      have sc0 := hSl.c0
      have HES := hide es
      have HEB := hide eb
      have HET := hide et
      have HCG := hide cg
      have HSL := hide hSl
      have hgd : ss.getD j default = s := getD_at es
      by_cases hgq : q ≤ g
      · have d2 : decide ((g : Int) ≥ q) = true := by simpa using hgq
        have HI2 : Hid (ShI N0 w c z sz m ss0 mn lw hi k nb nd0 fr x q j g bs ts ss nd wr) := ⟨(unhide hS).r, (unhide hS).ch, by omega, hgl, (unhide hS).ok, fun bx => by
          obtain ⟨bx', e1⟩ := (unhide hS).e bx
          refine ⟨bx', e1.trans ?_⟩
          rw [shr, if_neg (by omega)]
          cases j with
          | zero => rfl
          | succ j => rw [shr, if_neg (by omega)]⟩
        clear hS HM cg hSl es eb et hsok
        go_wp2_with fail
        go_roundw
        case rel => exact ⟨j, g, bs, ts, ss, nd, rfl, by go_num, HI2⟩
        case measure => simp [RowKit.intOf]
      · have d2 : decide ((g : Int) ≥ q) = false := by simpa using (by omega : (g : Int) < q)
        have HI2 : emp x s = false → Hid (ShI N0 w c z sz m ss0 mn lw hi k nb nd0 fr x q j g bs ts ss nd wr) := fun hem => ⟨(unhide hS).r, (unhide hS).ch, by omega, hgl, (unhide hS).ok, fun bx => by
          obtain ⟨bx', e1⟩ := (unhide hS).e bx
          refine ⟨bx', e1.trans ?_⟩
          rw [shr, if_pos (by omega), hgd, hem]
          rfl⟩
        by_cases hnx : s.nd = x
        · have d3 : ((s.nd : Int) != (x : Int)) = false := by simp [hnx]
          by_cases hp : pop s.bm m = 0
          · have hb0 : s.bm = 0 := pop_eq_zero hsok.2.2.1 hp
            have hem : emp x s = true := by unfold emp; simp only [decide_eq_true_eq]; exact ⟨by omega, hb0⟩
            rw [hp] at HM
            have HEM := hide hem
            clear HI2 hem cg hSl es eb et hsok hp
            go_wp2_with fail
            refine (unhide HM).mono ?_
            rintro ev w2 ⟨rfl, b2⟩
            have RR2 := hide ((unhide hS).r.b (btr b2 (drw w2)))
            have CH2 := hide ((unhide hS).ch.trans (Chg.below (btr b2 (drw w2))))
            have S2 := (unhide HSL).b b2
            have a00 := ((unhide hS).r.b b2).hc.c0
            have a0 := S2.c0
            have a1 := S2.c1
            have a2 := S2.c2
            rw [hnx] at a0
            have HK : Hid (∀ W', Chg [some 213] N0 w2.drew W' → W'.cell? ⟨c, 0, none⟩ = some (.pointer (some ⟨z, 0, none⟩)) ∧ W'.cell? ⟨b, 0, none⟩ = some (.int .i64 (x : Int)) ∧ W'.cell? ⟨b, 1, none⟩ = some (.int .i64 s.at_) ∧ W'.cell? ⟨b, 2, none⟩ = some (.int .i64 0)) := fun W' hc => by
              have hcc := hc.same (b := c) (t := 66) (unhide RR2).hc.tg (by decide)
              have hcb := hc.same (b := b) (t := 143) (S2.b (drw w2)).tg (by decide)
              exact ⟨(World.cell?_of_block (a := ⟨c, 0, none⟩) hcc).trans a00, (World.cell?_of_block (a := ⟨b, 0, none⟩) hcb).trans a0, (World.cell?_of_block (a := ⟨b, 1, none⟩) hcb).trans a1, (World.cell?_of_block (a := ⟨b, 2, none⟩) hcb).trans a2⟩
            have HKK : Hid (∀ W', Kept (nb x) (nb x) w2.drew W' → Chg [some 213] N0 w2.drew W') := fun W' hk => Chg.one hk ((unhide RR2).hz.rb x hx).tg ((unhide RR2).g x hx)
            have HZG := rzgive_ok z mn lw hi k nb nd fr x s.at_ 0 w2.drew (unhide RR2).hz hx
            generalize gaveE (s.at_, 0) (nd x) = ee at HZG
            unfold plV ptr at HZG
            have HZG := hide HZG
            clear HM b2 S2 sc0 e2 cgb hg
            go_wp2_with fail
            go_region_held3 (fun W' => W'.cell? ⟨c, 0, none⟩ = some (.pointer (some ⟨z, 0, none⟩)) ∧ W'.cell? ⟨b, 0, none⟩ = some (.int .i64 (x : Int)) ∧ W'.cell? ⟨b, 1, none⟩ = some (.int .i64 s.at_) ∧ W'.cell? ⟨b, 2, none⟩ = some (.int .i64 0)) (first | (go_keep; done) | exact (unhide HK) _ (Chg.refl _ _ _) | exact (unhide HK) _ ((unhide HKK) _ (by assumption))) ((go_at_call 84; refine (unhide HZG).mono ?_; rintro ev w4 ⟨rfl, rz4, k4⟩))
            have RR4 := hide ((unhide RR2).turnZ hx k4 rz4)
            have ok4 := hide (unhide hS).ok
            have HE0 := hide (unhide hS).e
            obtain ⟨g4, d4, e4, hg4, hd4, hd5, cg4⟩ := (unhide RR4).1.hc.row2 (by omega)
            have hcl := (unhide RR4).1.hc.tg.lt
            have hcf := (unhide RR4).1.hc.cf 2
            have hlen := (unhide RR4).1.hc.len
            have HT : Hid ((ptrl (bs.take j)).length = j * 1) := by show _ = _; rw [ptrl_len, List.length_take]; omega
            have HD : Hid ((ptrl (bs.drop (j + 1))).length = (ss.length - (j + 1)) * 1) := by show _ = _; rw [ptrl_len, List.length_drop]; omega
            have HN1 : Hid (∀ j' u, (ptrl (bs.take j))[j']? = some u → w4.cell? ((⟨g4, 0, none⟩ : Addr).add j') = some u) := news_ptr cg4 (fun i b hb => by
              rw [List.getElem?_take] at hb
              split at hb
              · rw [Nat.zero_add]; exact hb
              · cases hb)
            have HN2 : Hid (∀ j' u, (ptrl (bs.drop (j + 1)))[j']? = some u → w4.cell? ((⟨g4, j + 1, none⟩ : Addr).add j') = some u) := news_ptr cg4 (fun i b hb => by rw [List.getElem?_drop] at hb; exact hb)
            have hN4 : N0 ≤ w4.heap.size := by have := (unhide CH2).size; have := (unhide RR4).2.size; omega
            unfold maxLen at hd5
            have tok1 : True := trivial
            clear HZG HK HKK rz4 k4 a00 a0 a1 a2 cg4 hS RR2
            have hel : ∀ {α : Type} (l : List α), l.eraseIdx j = l.take j ++ l.drop (j + 1) := fun l => List.eraseIdx_eq_take_drop_succ ..
            have hpe : ptrl (bs.eraseIdx j) = ptrl (bs.take j) ++ ptrl (bs.drop (j + 1)) := by rw [hel]; exact List.map_append
            have hl1 : (ss.eraseIdx j).length = ss.length - 1 := by rw [List.length_eraseIdx, if_pos (by omega)]
            have FIN0 : ∀ v6 w6, Below w4.heap.size w4 w6 → w6.ownsRow w4.heap.size 140 1 v6 (ss.length - 1) (ptrl (bs.eraseIdx j)) → ShI N0 w c z sz m ss0 mn lw hi k nb nd0 fr x q j (g + 1) (bs.eraseIdx j) (ts.eraseIdx j) (ss.eraseIdx j) (up nd x (gaveD (s.at_, 0) (nd x))) (w6.setCell ⟨c, 2, none⟩ v6) := fun v6 w6 hb6 ho6 => by
              have hC := (unhide RR4).1.hc
              have hlt := hC.lt
              obtain ⟨r1, r2⟩ := hC.row_new (w' := w6) hb6 (bs' := bs.eraseIdx j) (ts' := ts.eraseIdx j) (ss' := ss.eraseIdx j) (own_slice ho6) (by rw [List.length_eraseIdx, if_pos (by omega)]; omega) ho6 hN4 (by rw [List.length_eraseIdx, if_pos (by omega), hl1]; omega) (by rw [List.length_eraseIdx, if_pos (by omega), hl1]; omega) (hC.tn.sublist (List.eraseIdx_sublist ..)) (fun t ht => hC.gt t (List.mem_of_mem_eraseIdx ht)) (fun i b t u h1 h2 h3 => by
                rw [List.getElem?_eraseIdx] at h1 h2 h3
                have hS : RSl w4 b t m u := by
                  split at h1
                  · rename_i hlt
                    rw [if_pos hlt] at h2 h3
                    exact hC.sl i b t u h1 h2 h3
                  · rename_i hlt
                    rw [if_neg hlt] at h2 h3
                    exact hC.sl (i + 1) b t u h1 h2 h3
                exact hS.b hb6)
              refine ⟨(unhide RR4).1.turnC (r2.mono (by decide) (Nat.le_refl _)) r1, ((unhide CH2).trans (unhide RR4).2).trans (r2.mono (by decide) (Nat.le_refl _)), by rw [hl1]; omega, by rw [hl1]; omega, fun u hu => (unhide ok4) u (List.mem_of_mem_eraseIdx hu), fun bx => ?_⟩
              obtain ⟨bx', e1⟩ := (unhide HE0) bx
              refine ⟨bx'.eraseIdx j, e1.trans ?_⟩
              rw [shr, if_pos (by omega), hgd, if_pos (unhide HEM)]
            have FIN0 := hide FIN0
            have HPE := hide hpe
            have hg1 : (g : Int) < 10000 := by omega
            have wg : IntKind.i64.wrap ((g : Int) + 1) = (g : Int) + 1 := IntWalk.i64_in _ (by omega)
            clear hpe hel hl1
            by_cases hc4 : j + 1 = d4
            · subst hc4
              have hj2 : ss.length - (j + 1) = 0 := by omega
              have hzd : Hid (ptrl (bs.drop (j + 1)) = []) := by show _ = _; rw [List.drop_of_length_le (by omega)]; rfl
              go_wp2_with (first
                | (at_builtin; have _t := tok1; refine wpList_append_own _ rfl (.tmp 54) (.tmp 60) 64 rfl w4.heap.size 140 i0 (.pointer none) 1 8 Tryz.underlying64 (unhide HI) (unhide HZ) (unhide HZ1) (unhide HZ2) rfl (by decide) _ 0 [] rfl (World.ownsRow_nil _ _ _ _) _ _ _ (ptrl (bs.take j)) rfl (unhide HT) (unhide HN1) (ptrl_one' _) (by unfold maxLen; omega) (by omega) (Nat.le_refl _) ?_; intro v1 w5 o5 g5 n5; have b5 : Below w4.heap.size w4 w5 := (Below.refl _ _).grown g5 (Nat.le_refl _) (fun k hk => by cases hk); have N5 : Hid (∀ j' u, (ptrl (bs.drop (j + 1)))[j']? = some u → w5.cell? ((⟨g4, j + 1, none⟩ : Addr).add j') = some u) := news_below hg4 b5 (unhide HN2); have B5 := hide b5; have O5 := hide o5; have a55 := (b5.cell (p := ⟨c, 2, none⟩) hcl).trans e4; clear o5 g5 n5 b5 tok1)
                | (at_builtin; refine wpList_append_own _ rfl (.tmp 63) (.tmp 70) 64 rfl w4.heap.size 140 i0 (.pointer none) 1 8 Tryz.underlying64 (unhide HI) (unhide HZ) (unhide HZ1) (unhide HZ2) rfl (by decide) _ _ _ rfl (unhide O5) _ 0 _ [] rfl rfl (by intro j u h; simp at h) (by intro u h; simp at h) (by unfold maxLen; omega) (by omega) (unhide B5).size ?_; intro v6 w6 o6 g6 n6; rw [show 0 + j + 0 = ss.length - 1 by omega, List.nil_append] at o6; obtain ⟨p6, d6, rfl⟩ := own_slice o6; have b6 : Below w4.heap.size w4 w6 := (unhide B5).grown g6 (unhide B5).size (own_row (unhide O5)); have a66 := (b6.cell (p := ⟨c, 2, none⟩) hcl).trans e4; have f66 := (b6.frozen (p := ⟨c, 2, none⟩) hcl).trans hcf; have O6 := hide o6; have B6 := hide b6; clear o6 g6 n6 b6))
              have FIN := hide ((unhide FIN0) _ w6 (unhide B6) (by rw [unhide HPE, unhide hzd]; exact unhide O6))
              clear O6 B6 O5 B5 N5
              go_wp2_with fail
              go_roundw
              case rel => exact ⟨j, g + 1, _, _, _, _, by go_num, by go_num, unhide FIN⟩
              case measure => simp [RowKit.intOf]
            · have hlt4 : (j : Int) + 1 < d4 := by omega
              go_wp2_with (first
                | (at_builtin; have _t := tok1; refine wpList_append_own _ rfl (.tmp 54) (.tmp 60) 64 rfl w4.heap.size 140 i0 (.pointer none) 1 8 Tryz.underlying64 (unhide HI) (unhide HZ) (unhide HZ1) (unhide HZ2) rfl (by decide) _ 0 [] rfl (World.ownsRow_nil _ _ _ _) _ _ _ (ptrl (bs.take j)) rfl (unhide HT) (unhide HN1) (ptrl_one' _) (by unfold maxLen; omega) (by omega) (Nat.le_refl _) ?_; intro v1 w5 o5 g5 n5; have b5 : Below w4.heap.size w4 w5 := (Below.refl _ _).grown g5 (Nat.le_refl _) (fun k hk => by cases hk); have N5 : Hid (∀ j' u, (ptrl (bs.drop (j + 1)))[j']? = some u → w5.cell? ((⟨g4, j + 1, none⟩ : Addr).add j') = some u) := news_below hg4 b5 (unhide HN2); have B5 := hide b5; have O5 := hide o5; have a55 := (b5.cell (p := ⟨c, 2, none⟩) hcl).trans e4; clear o5 g5 n5 b5 tok1)
                | (at_builtin; refine wpList_append_own _ rfl (.tmp 63) (.tmp 70) 64 rfl w4.heap.size 140 i0 (.pointer none) 1 8 Tryz.underlying64 (unhide HI) (unhide HZ) (unhide HZ1) (unhide HZ2) rfl (by decide) _ _ _ rfl (unhide O5) _ _ _ (ptrl (bs.drop (j + 1))) rfl (unhide HD) (unhide N5) (ptrl_one' _) (by unfold maxLen; omega) (by omega) (unhide B5).size ?_; intro v6 w6 o6 g6 n6; rw [show 0 + j + (ss.length - (j + 1)) = ss.length - 1 by omega, List.nil_append] at o6; obtain ⟨p6, d6, rfl⟩ := own_slice o6; have b6 : Below w4.heap.size w4 w6 := (unhide B5).grown g6 (unhide B5).size (own_row (unhide O5)); have a66 := (b6.cell (p := ⟨c, 2, none⟩) hcl).trans e4; have f66 := (b6.frozen (p := ⟨c, 2, none⟩) hcl).trans hcf; have O6 := hide o6; have B6 := hide b6; clear o6 g6 n6 b6))
              have FIN := hide ((unhide FIN0) _ w6 (unhide B6) (by rw [unhide HPE]; exact unhide O6))
              clear O6 B6 O5 B5 N5
              go_wp2_with fail
              go_roundw
              case rel => exact ⟨j, g + 1, _, _, _, _, by go_num, by go_num, unhide FIN⟩
              case measure => simp [RowKit.intOf]
          · have d4 : decide (((pop s.bm m : Nat) : Int) > 0) = true := by simp; omega
            have d5 : decide (0 < pop s.bm m) = true := by simp; omega
            have d6 : decide ((0 : Int) < ((pop s.bm m : Nat) : Int)) = true := by simp; omega
            have HI3 := HI2 (by unfold emp; simp only [decide_eq_false_iff_not]; rintro ⟨_, h0⟩; exact hp (by rw [h0]; exact pop_of_zero m))
            clear HI2 hS cg hSl es eb et hsok hp
            go_wp2_with fail
            refine (unhide HM).mono ?_
            rintro ev w2 ⟨rfl, b2⟩
            have HI4 : Hid (ShI N0 w c z sz m ss0 mn lw hi k nb nd0 fr x q j g bs ts ss nd w2) := ⟨(unhide HI3).r.b b2, (unhide HI3).ch.trans (Chg.below b2), (unhide HI3).jl, (unhide HI3).gl, (unhide HI3).ok, (unhide HI3).e⟩
            clear HI3 HM b2
            go_wp2_with fail
            go_roundw
            case rel => exact ⟨j, g, bs, ts, ss, nd, rfl, by go_num, HI4⟩
            case measure => simp [RowKit.intOf]
        · have d3 : ((s.nd : Int) != (x : Int)) = true := by simp; omega
          have HI3 := HI2 (by unfold emp; simp only [decide_eq_false_iff_not]; omega)
          clear HI2 hS HM cg hSl es eb et hsok
          go_wp2_with fail
          go_roundw
          case rel => exact ⟨j, g, bs, ts, ss, nd, rfl, by go_num, HI3⟩
          case measure => simp [RowKit.intOf]
end Sb
end Go.Proofs.YtjkdnoafgcmheaaGreatDoor
