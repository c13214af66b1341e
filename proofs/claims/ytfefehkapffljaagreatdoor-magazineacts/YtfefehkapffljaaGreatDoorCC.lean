/- C4 · C5. -/
import Derived.Test.YtfefehkapffljaaGreatDoorCA
import Derived.Test.YtfefehkapffljaaGreatDoorKM
import Derived.Test.YtfefehkapffljaaGreatDoorGM
import Derived.Deep.RegionHeld3
namespace Go.Proofs.YtfefehkapffljaaGreatDoor
open Go.RowKit Go.Maps
namespace Sb
open Fr Bd Zn Dz
theorem rl_same {w w' : World} {b : Nat} {v : Value} {L : List Bl} (h : RL w b v L) (hs : Same [71] w w') (hz : w.heap.size ≤ w'.heap.size) : RL w' b v L := by
 rcases h with h | ⟨g, c, hv, h0, h1, h2, h3, hr⟩
 · exact Or.inl h
 · have hb := hs g 71 (by simp) hr.tg
   refine Or.inr ⟨g, c, hv, h0, h1, h2, h3, ⟨⟨fun i hi => ?_, fun o ho => ?_, Nat.lt_of_lt_of_le hr.lt hz⟩, hr.tg.blk hb⟩⟩
   · exact ⟨(World.cell?_of_block (w := w) (a := ⟨g, i * 2, none⟩) hb).trans (hr.c i hi).1, (World.cell?_of_block (w := w) (a := ⟨g, i * 2 + 1, none⟩) hb).trans (hr.c i hi).2⟩
   · exact (World.frozen?_of_block (w := w) (a := ⟨g, o, none⟩) hb).trans (hr.fz o ho)
theorem rb_same {w w' : World} {b : Nat} {N : Int} {F T : List Bl} (h : RB w b N F T) (hs : Same [71] w w') (hb : w'.heap[b]? = w.heap[b]?) (hz : w.heap.size ≤ w'.heap.size) : RB w' b N F T := by
 obtain ⟨v1, e1, l1⟩ := h.c1
 obtain ⟨v2, e2, l2⟩ := h.c2
 have fr : ∀ o, w'.frozen? ⟨b, o, none⟩ = w.frozen? ⟨b, o, none⟩ := fun o => World.frozen?_of_block (w := w) (a := ⟨b, o, none⟩) hb
 have cl : ∀ o, w'.cell? ⟨b, o, none⟩ = w.cell? ⟨b, o, none⟩ := fun o => World.cell?_of_block (w := w) (a := ⟨b, o, none⟩) hb
 exact ⟨(cl 0).trans h.c0, ⟨v1, (cl 1).trans e1, rl_same l1 hs hz⟩, ⟨v2, (cl 2).trans e2, rl_same l2 hs hz⟩, (fr 1).trans h.f1, (fr 2).trans h.f2, Nat.lt_of_lt_of_le h.lt hz, h.tg.blk hb⟩
theorem rz_same {w w' : World} {z : Nat} {mn lw hi : Int} {k : Nat} {nb : Nat → Nat} {nd : Nat → Nd} {fr : Nat → List Nat} (h : RZ w z mn lw hi k nb nd fr) (hs : Same [136, 137, 22, 3, 213, 71] w w') (hz : w.heap.size ≤ w'.heap.size) : RZ w' z mn lw hi k nb nd fr := by
 have cl := fun j => cell_same hs (by simp) h.tg j
 obtain ⟨g, c, e1, o1⟩ := h.cn
 obtain ⟨g2, c2, rows, e2, o2, r2⟩ := h.cf
 have h71 : Same [71] w w' := fun b t hm ht => hs b t (by simp at hm; simp [hm]) ht
 refine ⟨(cl 2).trans h.m2, (cl 3).trans h.m3, (cl 4).trans h.m4, ⟨g, c, (cl 5).trans e1, own_same o1 hs (by simp)⟩, ⟨g2, c2, rows, (cl 6).trans e2, own_same o2 hs (by simp), fun i hi => ?_⟩, tag_same hs (by simp) h.tg, fun i hi => rb_same (h.rb i hi) h71 (hs _ 213 (by simp) (h.rb i hi).tg) hz, h.ok, h.ne⟩
 obtain ⟨h', d, e3, o3⟩ := r2 i hi
 exact ⟨h', d, e3, own_same o3 hs (by simp)⟩
structure RR (N0 : Nat) (w : World) (c z : Nat) (sz : Int) (m : Nat) (bs ts : List Nat) (ss : List Sl) (mn lw hi : Int) (k : Nat) (nb : Nat → Nat) (nd : Nat → Nd) (fr : Nat → List Nat) : Prop where
 hz : RZ w z mn lw hi k nb nd fr
 hc : RC N0 w c z sz m bs ts ss
 g : ∀ i, i < k → N0 ≤ nb i
 r : ∀ g cp, w.cell? ⟨z, 5, none⟩ = some (.slice (some ⟨g, 0, none⟩) k cp) → N0 ≤ g
abbrev R4 : List (Option TypeId) := [some 213, some 137, some 66, some 140, some 4]
section
variable {N0 : Nat} {w w' : World} {c z : Nat} {sz : Int} {m : Nat} {bs ts : List Nat} {ss : List Sl} {mn lw hi : Int} {k : Nat} {nb : Nat → Nat} {nd : Nat → Nd} {fr : Nat → List Nat}
theorem RR.b (h : RR N0 w c z sz m bs ts ss mn lw hi k nb nd fr) (hb : Below w.heap.size w w') : RR N0 w' c z sz m bs ts ss mn lw hi k nb nd fr :=
 ⟨h.hz.b hb, h.hc.b hb, h.g, fun g cp hc => h.r g cp ((hb.cell (p := ⟨z, 5, none⟩) h.hz.tg.lt).symm.trans hc)⟩
theorem RR.chg (h : RR N0 w c z sz m bs ts ss mn lw hi k nb nd fr) {tl : List (Option TypeId)} {N : Nat} (hc : Chg tl N w w') (hn : ∀ t ∈ ([136, 137, 22, 3, 213, 71, 66, 140, 143, 4] : List TypeId), some t ∉ tl) : RR N0 w' c z sz m bs ts ss mn lw hi k nb nd fr :=
 ⟨rz_same h.hz (hc.toSame (fun t ht => hn t ((by decide : ∀ t ∈ ([136, 137, 22, 3, 213, 71] : List TypeId), t ∈ ([136, 137, 22, 3, 213, 71, 66, 140, 143, 4] : List TypeId)) t ht))) hc.size, h.hc.same (hc.toSame (fun t ht => hn t ((by decide : ∀ t ∈ ([66, 140, 143, 4] : List TypeId), t ∈ ([136, 137, 22, 3, 213, 71, 66, 140, 143, 4] : List TypeId)) t ht))), h.g, fun g cp e => h.r g cp ((World.cell?_of_block (w := w) (a := ⟨z, 5, none⟩) (hc.same h.hz.tg (hn 136 (by simp)))).symm.trans e)⟩
theorem RR.turnC (h : RR N0 w c z sz m bs ts ss mn lw hi k nb nd fr) {bs' ts' : List Nat} {ss' : List Sl} (hc : Chg [some 66, some 140, some 4] N0 w w') (hC : RC N0 w' c z sz m bs' ts' ss') : RR N0 w' c z sz m bs' ts' ss' mn lw hi k nb nd fr :=
 ⟨rz_same h.hz (hc.toSame (by decide)) hc.size, hC, h.g, fun g cp e => h.r g cp ((World.cell?_of_block (w := w) (a := ⟨z, 5, none⟩) (hc.same h.hz.tg (by decide))).symm.trans e)⟩
theorem RC.row_new (h : RC N0 w c z sz m bs ts ss) (hb : Below w.heap.size w w') {bs' ts' : List Nat} {ss' : List Sl} {v : Value} {n : Nat} (hv : ∃ p d, v = .slice p n d) (hn : n = bs'.length) (ho : w'.ownsRow w.heap.size 140 1 v n (ptrl bs')) (hN : N0 ≤ w.heap.size) (hl : bs'.length = ss'.length) (hlt : ts'.length = ss'.length) (htn : ts'.Nodup) (hgt : ∀ t ∈ ts', N0 ≤ t) (hsl : ∀ (i b t : Nat) (s : Sl), bs'[i]? = some b → ts'[i]? = some t → ss'[i]? = some s → RSl w' b t m s) : RC N0 (w'.setCell ⟨c, 2, none⟩ v) c z sz m bs' ts' ss' ∧ Chg [some 66] N0 w (w'.setCell ⟨c, 2, none⟩ v) := by
 obtain ⟨p, d, rfl⟩ := hv
 subst hn
 have h' := h.b hb
 have ht := h'.tg
 have hc : Chg [some 66] N0 w' (w'.setCell ⟨c, 2, none⟩ (.slice p bs'.length d)) := Chg.set ht h'.ge 2 _
 have hsm : Same [140, 143, 4] w' (w'.setCell ⟨c, 2, none⟩ (.slice p bs'.length d)) := hc.toSame (by decide)
 have ho2 : w'.ownsRow N0 140 1 (.slice p bs'.length d) bs'.length (ptrl bs') := by
   refine ⟨ho.1, ?_⟩
   rcases ho.2 with h2 | ⟨g, cap, cur, h1, h2, h3⟩
   · exact Or.inl h2
   · exact Or.inr ⟨g, cap, cur, h1, Nat.le_trans hN h2, h3⟩
 obtain ⟨p0, d0, e2, _⟩ := h'.c2
 refine ⟨⟨(cso (by simp)).trans h'.c0, (cso (by simp)).trans h'.c1, ⟨p, d, css e2, own_same ho2 hsm (by simp)⟩, ht.set _ _, h'.ge, hl, hlt, htn, hgt, fun i b t s e1 e2 e3 => ?_, fun o => by rw [World.frozen?_setCell]; exact h'.cf o⟩, (Chg.below hb).trans hc⟩
 have hS := hsl i b t s e1 e2 e3
 exact hS.same (hsm b 143 (by simp) hS.tg) (hsm t 4 (by simp) hS.tt)
end
end Sb
end Go.Proofs.YtfefehkapffljaaGreatDoor
namespace Go.Proofs.YtfefehkapffljaaGreatDoor
open Go.RowKit Go.Maps
namespace Sb
open Fr Bd Zn Dz
theorem info140 : (Tryz.prog.info? 140).map (fun i => (i.zero, i.size, i.bytes)) = some (some (.pointer none), 1, 8) := by kernel_rfl
theorem ptrl_one' (bs : List Nat) : ∀ v ∈ ptrl bs, v.oneCell' = true := fun v hv => by
 obtain ⟨b, _, rfl⟩ := List.mem_map.mp hv
 rfl
theorem ptrl_len (bs : List Nat) : (ptrl bs).length = bs.length := List.length_map ..
theorem news_ptr {w : World} {g a : Nat} {bs cs : List Nat} (hr : ∀ i b, bs[i]? = some b → w.cell? ⟨g, i, none⟩ = some (ptr b)) (hc : ∀ j b, cs[j]? = some b → bs[a + j]? = some b) : ∀ j u, (ptrl cs)[j]? = some u → w.cell? ((⟨g, a, none⟩ : Addr).add j) = some u := fun j u h => by
 rw [add_at]
 simp only [ptrl, List.getElem?_map, Option.map_eq_some_iff] at h
 obtain ⟨b, h1, rfl⟩ := h
 exact hr _ _ (hc j b h1)
theorem news_below {w w' : World} {g a : Nat} {cs : List Value} (hg : g < w.heap.size) (hb : Below w.heap.size w w') (h : ∀ j u, cs[j]? = some u → w.cell? ((⟨g, a, none⟩ : Addr).add j) = some u) : ∀ j u, cs[j]? = some u → w'.cell? ((⟨g, a, none⟩ : Addr).add j) = some u := fun j u hu => by
 have := h j u hu
 rw [add_at] at this ⊢
 exact (hb.cell (p := ⟨g, a + j, none⟩) hg).trans this
theorem own_slice {w : World} {b e size n : Nat} {v : Value} {xs : List Value} (h : w.ownsRow b e size v n xs) : ∃ p d, v = .slice p n d := by
 rcases h.2 with ⟨rfl, rfl⟩ | ⟨g, cap, cur, e, _⟩
 · exact ⟨none, 0, rfl⟩
 · exact ⟨_, _, e⟩
end Sb
end Go.Proofs.YtfefehkapffljaaGreatDoor
