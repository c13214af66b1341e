/- C13. -/
import Derived.Test.YtfefehkapffljaaGreatDoorKM
import Derived.Lib.SmallJoins
namespace Go.Proofs.YtfefehkapffljaaGreatDoor
open Go.RowKit Go.ChangeShapes
namespace Sb
open Fr Bd Zn Dz
section
variable {H : Type} {enc : TypeId × Value → H} {w : World} {base : Nat} {spare : Nat → Bool} {held : Bool}
set_option maxRecDepth 10000 in
theorem open_conf2 {fuel : Nat} {cs : List Value} {x : DataW H × List MemPlace} (h : DataW.trod enc Tryz.prog w base spare held fuel 27 cs = some x) :
   ∃ (c : Cf) (p q : Option Addr) (pc qc : Nat), cs = [.slice p c.n pc, .slice q c.m qc, .int .i64 c.mn, .int .i64 c.lw, .int .i64 c.hi] ∧ At w c p q ∧ (p = none → pc = 0) ∧ c.hi ≤ 9223372036854775807 := by
 obtain ⟨xs, k, hk, hxy, hlen, hxl, hf⟩ := DataW.trod_struct Tryz.underlying27 h
 rw [cells51] at hlen
 match xs, hxl, cs, hlen with
 | [y0, y1, y2], _, [v0, v1, v2, v3, v4], _ =>
   have g0 := hf 0 _ rfl
   have g1 := hf 1 _ rfl
   have g2 := hf 2 _ rfl
   simp [cells46, cells47, cells49] at g0 g1 g2
   obtain ⟨r, rfl, hn, hp⟩ := open_row g0
   obtain ⟨q, m, qc, M, D, rfl, hr⟩ := open_rows g1
   obtain ⟨zs, k2, _, _, _, hzl, hg⟩ := DataW.trod_struct Tryz.underlying25 g2
   match zs, hzl with
   | [z0, z1, z2], _ =>
     have e0 := hg 0 _ rfl
     have e1 := hg 1 _ rfl
     have e2 := hg 2 _ rfl
     simp [cells3] at e0 e1 e2
     obtain ⟨mn, h1, _⟩ := DataW.trod_int Tryz.underlying3 e0
     obtain ⟨lw, h2, _⟩ := DataW.trod_int Tryz.underlying3 e1
     obtain ⟨hi, h3, _, w3⟩ := DataW.trod_int Tryz.underlying3 e2
     simp at h1 h2 h3
     subst h1 h2 h3
     exact ⟨⟨r.l, r.z, m, M, D, mn, lw, hi⟩, r.pr, q, r.c, qc, rfl, ⟨hn, hr⟩, hp, by have := Go.Joins.in64_of_wf w3; unfold Go.Joins.In64 at this; exact this.2⟩
end
end Sb
end Go.Proofs.YtfefehkapffljaaGreatDoor
