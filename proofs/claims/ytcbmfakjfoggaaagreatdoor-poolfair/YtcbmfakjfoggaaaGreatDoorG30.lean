/- Lay, beneath a depot; a depot's room · A loaded tray goes on the pile, a new one in its place · A depot's Give, by contract · A depot's New, by contract · A cache on one node, filled: how many objects it has; the closed fact 'cached', its three acts. -/
import Derived.Test.YtcbmfakjfoggaaaGreatDoorG29
import Derived.Deep.RegionHeldLaw
import Derived.Test.YtcbmfakjfoggaaaGreatDoorG27
namespace Go.Proofs.YtcbmfakjfoggaaaGreatDoor
open Go.RowKit Go.Maps
namespace Mg
open Fr Bd Zn Dz Sb
/-- A depot among trays that are told apart. -/
structure DX (w0 : World) (N0 : Nat) (U : Nat → Prop) (X : Nat → Option Obj) (c z d g : Nat) (sz : Int) (m : Nat) (mn lw hi : Int) (k : Nat) (nb fm tm : Nat → Nat) (fr : Nat → List Nat) (Q : Nat) (ss : List Sl) (nd : Nat → Nd) (ws : List (Nat × Nat)) (pl : List Nat) (L : List Nat) (ct : Nat → List Bl) (w : World) : Prop where
  b0 : Below w0.heap.size w0 w
  ex : ∃ (ly : Nat × Obj) (bs : List Nat) (q : Nat) (f : Int → Int → Option Nat) (rb : Nat → Nat), PS N0 w c z (ly.1, ly.2, X) sz m bs ss mn lw hi k nb fm tm nd fr ∧ TS N0 U w c ly.1 q f L rb ct ∧ q ≤ Q
  db : DB N0 w c d g ws pl
  tk : ∀ t ∈ L, ∀ o ∈ ct t, Tkn m sz ss o.1 o.2
  uk : ∀ k, U k → Tag w k 34
  ul : ∀ k, U k → w0.heap.size ≤ k
section
variable {w0 : World} {N0 : Nat} {U : Nat → Prop} {X : Nat → Option Obj} {c z d g : Nat} {sz : Int} {m : Nat} {mn lw hi : Int} {k : Nat} {nb fm tm : Nat → Nat} {fr : Nat → List Nat} {Q : Nat} {ss ss' : List Sl} {nd nd' : Nat → Nd} {ws : List (Nat × Nat)} {pl L : List Nat} {ct : Nat → List Bl} {w w' : World}
theorem DQ.x (h : DQ w0 N0 U X c z d g sz m mn lw hi k nb fm tm fr Q ss nd ws pl ct w) : DX w0 N0 U X c z d g sz m mn lw hi k nb fm tm fr Q ss nd ws pl (trs ws pl) ct w := ⟨h.b0, h.ex, h.db, h.tk, h.uk, h.ul⟩
theorem DX.q (h : DX w0 N0 U X c z d g sz m mn lw hi k nb fm tm fr Q ss nd ws pl L ct w) (hn : (trs ws pl).Nodup) (hs : ∀ t ∈ trs ws pl, t ∈ L) (he : ∀ t ∈ L, t ∉ trs ws pl → ct t = []) (hp : ∀ t ∈ pl, (ct t).length = 4) (hq : pl.length ≤ Q) : DQ w0 N0 U X c z d g sz m mn lw hi k nb fm tm fr Q ss nd ws pl ct w := by
  obtain ⟨ly, bs, q, f, rb, h1, h2, h3⟩ := h.ex
  exact ⟨h.b0, ⟨ly, bs, q, f, rb, h1, h2.sub hn hs he, h3⟩, h.db, hp, fun t ht => h.tk t (hs t ht), h.uk, h.ul, hq⟩
theorem DX.b (h : DX w0 N0 U X c z d g sz m mn lw hi k nb fm tm fr Q ss nd ws pl L ct w) (hb : Below w.heap.size w w') : DX w0 N0 U X c z d g sz m mn lw hi k nb fm tm fr Q ss nd ws pl L ct w' := by
  obtain ⟨ly, bs, q, f, rb, h1, h2, h3⟩ := h.ex
  exact ⟨btr h.b0 hb, ⟨ly, bs, q, f, rb, h1.b hb, h2.b hb, h3⟩, h.db.b hb, h.tk, fun k hk => (h.uk k hk).b hb, h.ul⟩
/-- Where a depot's own blocks turn. -/
theorem DX.own (h : DX w0 N0 U X c z d g sz m mn lw hi k nb fm tm fr Q ss nd ws pl L ct w) (hN : w0.heap.size ≤ N0) (hc : Chg [some 182, some 175, some 177] N0 w w') {ws' : List (Nat × Nat)} {pl' : List Nat} (hd : DB N0 w' c d g ws' pl') : DX w0 N0 U X c z d g sz m mn lw hi k nb fm tm fr Q ss nd ws' pl' L ct w' ∧ UK U w w' := by
  obtain ⟨ly, bs, q, f, rb, h1, h2, h3⟩ := h.ex
  have huk : UK U w w' := UK.chg h.uk hc (by decide)
  exact ⟨⟨h.b0.trans ((hc.mono (fun _ h => h) hN).toBelow h.b0.size), ⟨ly, bs, q, f, rb, h1.chg hc (by decide) (by decide) (by decide), h2.chgN hc (by decide) (by decide) (by decide), h3⟩, hd, h.tk, fun k hk => (h.uk k hk).blk (huk.u k hk), h.ul⟩, huk⟩
/-- A new tray beside. -/
theorem DX.add (h : DX w0 N0 U X c z d g sz m mn lw hi k nb fm tm fr Q ss nd ws pl L ct w) (hb : Below w.heap.size w w') {t : Nat} (ht : w.heap.size ≤ t) (hT : TRy N0 w' c t t []) : DX w0 N0 U X c z d g sz m mn lw hi k nb fm tm fr Q ss nd ws pl (t :: L) (upN ct t []) w' := by
  obtain ⟨ly, bs, q, f, rb, h1, h2, h3⟩ := h.ex
  have hno : t ∉ L := fun hm => by have := (h2.tr t hm).tg.lt; omega
  have h4 := h.b hb
  refine ⟨h4.b0, ⟨ly, bs, q, f, upN rb t t, h1.b hb, (h2.b hb).add hno hT (fun u hu e => ?_) (fun hU => ?_), h3⟩, h4.db, fun u hu o ho => ?_, h4.uk, h4.ul⟩
  · have := (h2.tr u hu).rlt; omega
  · have := (h.uk t hU).lt; omega
  · rcases List.mem_cons.1 hu with e | hu
    · rw [e, upN_at] at ho; cases ho
    · rw [upN_ne (fun (e : u = t) => hno (by rw [← e]; exact hu))] at ho
      exact h.tk u hu o ho
end
end Mg
end Go.Proofs.YtcbmfakjfoggaaaGreatDoor
namespace Go.Proofs.YtcbmfakjfoggaaaGreatDoor
open Go.RowKit Go.Maps
namespace Mg
open Fr Bd Zn Dz Sb
section
variable {w0 : World} {N0 : Nat} {U : Nat → Prop} {X : Nat → Option Obj} {c z d g : Nat} {sz : Int} {m : Nat} {mn lw hi : Int} {k : Nat} {nb fm tm : Nat → Nat} {fr : Nat → List Nat} {Q : Nat} {ss ss' : List Sl} {nd nd' : Nat → Nd} {ws : List (Nat × Nat)} {pl L : List Nat} {ct : Nat → List Bl} {w w' : World}
theorem DB.cells (h : DB N0 w c d g ws pl) {i a b : Nat} (hx : ws[i]? = some (a, b)) : w.cell? ⟨g, i * 2, none⟩ = some (ptr a) ∧ (∀ j, w.frozen? ⟨g, j, none⟩ = false) ∧ g < w.heap.size ∧ Tag w g 177 := by
  obtain ⟨cp, e1, o1⟩ := h.d1
  obtain ⟨f0, f1⟩ := flatP_get ws i (a, b) hx
  have hn : i < ws.length := (List.getElem?_eq_some_iff.mp hx).1
  refine ⟨(o1.cellAt (i * 2) (by omega)).trans f0, o1.frozenAt, (o1.lt g rfl).2, ?_⟩
  rcases o1.2 with ⟨e, _⟩ | ⟨g', cap, cur, e, _, hh, _⟩
  · cases e
  · simp only [Value.slice.injEq, Option.some.injEq, Addr.mk.injEq] at e
    obtain ⟨⟨rfl, _⟩, _⟩ := e
    exact ⟨cur, _, hh⟩
end
end Mg
end Go.Proofs.YtcbmfakjfoggaaaGreatDoor
namespace Go.Proofs.YtcbmfakjfoggaaaGreatDoor
open Go.RowKit Go.Maps
namespace Mg
open Fr Bd Zn Dz Sb
section
variable {w0 : World} {N0 : Nat} {U : Nat → Prop} {X : Nat → Option Obj} {c z d g : Nat} {sz : Int} {m : Nat} {mn lw hi : Int} {k : Nat} {nb fm tm : Nat → Nat} {fr : Nat → List Nat} {Q : Nat} {ss ss' : List Sl} {nd nd' : Nat → Nd} {ws : List (Nat × Nat)} {pl L : List Nat} {ct : Nat → List Bl} {w w' : World}
theorem DQ.nodup (h : DQ w0 N0 U X c z d g sz m mn lw hi k nb fm tm fr Q ss nd ws pl ct w) : (trs ws pl).Nodup := by
  obtain ⟨ly, bs, q, f, rb, h1, h2, h3⟩ := h.ex
  exact h2.nd
theorem DQ.low (h : DQ w0 N0 U X c z d g sz m mn lw hi k nb fm tm fr Q ss nd ws pl ct w) : N0 ≤ w.heap.size := Nat.le_of_lt (Nat.lt_of_le_of_lt h.db.ge h.db.tg.lt)
end
end Mg
end Go.Proofs.YtcbmfakjfoggaaaGreatDoor
namespace Go.Proofs.YtcbmfakjfoggaaaGreatDoor
open Go.RowKit Go.Maps
namespace Mg
open Fr Bd Zn Dz Sb
theorem info168 : (Tryz.prog.info? 177).map (fun i => (i.zero, i.size, i.bytes)) = some (some (.agg #[.pointer none, .pointer none]), 2, 16) := by kernel_rfl
/-- A depot that is being made: so many workers have their trays. -/
structure DN (N0 : Nat) (w : World) (c : Nat) (ws : List (Nat × Nat)) (W : World) : Prop where
  b : Below w.heap.size w W
  d0 : W.cell? ⟨w.heap.size, 0, none⟩ = some (ptr c)
  d1 : ∃ v, W.cell? ⟨w.heap.size, 1, none⟩ = some v ∧ W.ownsRow w.heap.size 177 2 v ws.length (flatP ws)
  d2 : W.cell? ⟨w.heap.size, 2, none⟩ = some (.slice none 0 0)
  tg : Tag W w.heap.size 182
  fz : ∀ o, W.frozen? ⟨w.heap.size, o, none⟩ = false
  nd : (trs ws []).Nodup
  tr : ∀ t ∈ trs ws [], TRy N0 W c t t [] ∧ w.heap.size < t
theorem trs_end (ws : List (Nat × Nat)) (a b : Nat) : trs (ws ++ [(a, b)]) [] = trs ws [] ++ [a, b] := by unfold trs; simp
theorem flatP_end (ws : List (Nat × Nat)) (a b : Nat) : flatP (ws ++ [(a, b)]) = flatP ws ++ [ptr a, ptr b] := by unfold flatP; simp
theorem DN.step {N0 : Nat} {w wr w4 : World} {c : Nat} {ws : List (Nat × Nat)} (h : DN N0 w c ws wr) (hN : N0 ≤ w.heap.size) {A B : Nat} (hAB : (A = wr.heap.size ∧ B = wr.heap.size + 1) ∨ (A = wr.heap.size + 1 ∧ B = wr.heap.size)) {p : Option Addr} {n cp g4 c4 : Nat} {S : Array Value} (hl : ws.length = n) (e1 : wr.cell? ⟨w.heap.size, 1, none⟩ = some (.slice p n cp)) (o1 : wr.ownsRow w.heap.size 177 2 (.slice p n cp) n (flatP ws)) (o4 : w4.ownsRow w.heap.size 177 2 (.slice (some ⟨g4, 0, none⟩) (n + 1) c4) (n + 1) (flatP ws ++ [.pointer (some ⟨A, 0, none⟩), .pointer (some ⟨B, 0, none⟩)])) (q4 : (((wr.alloc (.cells #[.pointer (some ⟨c, 0, none⟩), .slice none 0 0] 286)).alloc (.cells #[.pointer (some ⟨c, 0, none⟩), .slice none 0 0] 286)).alloc (.cells S 177)).drew.grownBy w4 (Value.slice p n cp).ownBlock) :
    DN N0 w c (ws ++ [(A, B)]) (w4.setCell ⟨w.heap.size, 1, none⟩ (.slice (some ⟨g4, 0, none⟩) (n + 1) c4)) := by
  have hNr : N0 ≤ wr.heap.size := Nat.le_trans hN h.b.size
  have hs1 : (wr.alloc (.cells #[.pointer (some ⟨c, 0, none⟩), .slice none 0 0] 286)).heap.size = wr.heap.size + 1 := by simp
  have T1 := tray_new N0 c wr hNr
  have T2 := tray_new N0 c (wr.alloc (.cells #[.pointer (some ⟨c, 0, none⟩), .slice none 0 0] 286)) (by rw [hs1]; omega)
  rw [hs1] at T2
  have B12 := ballo (Below.refl (wr.alloc (.cells #[.pointer (some ⟨c, 0, none⟩), .slice none 0 0] 286)).heap.size (wr.alloc (.cells #[.pointer (some ⟨c, 0, none⟩), .slice none 0 0] 286))) (.cells #[.pointer (some ⟨c, 0, none⟩), .slice none 0 0] 286)
  have B23 := (ballo (Below.refl ((wr.alloc (.cells #[.pointer (some ⟨c, 0, none⟩), .slice none 0 0] 286)).alloc (.cells #[.pointer (some ⟨c, 0, none⟩), .slice none 0 0] 286)).heap.size ((wr.alloc (.cells #[.pointer (some ⟨c, 0, none⟩), .slice none 0 0] 286)).alloc (.cells #[.pointer (some ⟨c, 0, none⟩), .slice none 0 0] 286))) (.cells S 177)).drew
  have B03 : Below wr.heap.size wr (((wr.alloc (.cells #[.pointer (some ⟨c, 0, none⟩), .slice none 0 0] 286)).alloc (.cells #[.pointer (some ⟨c, 0, none⟩), .slice none 0 0] 286)).alloc (.cells S 177)).drew := (ballo (ballo (ballo (Below.refl _ _) _) _) _).drew
  have T1' := (T1.b B12).b B23
  have T2' := T2.b B23
  have oA := own_b o1 B03
  have td := h.tg.b B03
  have tgb : ∀ t t', Tag (((wr.alloc (.cells #[.pointer (some ⟨c, 0, none⟩), .slice none 0 0] 286)).alloc (.cells #[.pointer (some ⟨c, 0, none⟩), .slice none 0 0] 286)).alloc (.cells S 177)).drew t t' → t' ≠ 177 → t ≠ w.heap.size → (w4.setCell ⟨w.heap.size, 1, none⟩ (.slice (some ⟨g4, 0, none⟩) (n + 1) c4)).heap[t]? = (((wr.alloc (.cells #[.pointer (some ⟨c, 0, none⟩), .slice none 0 0] 286)).alloc (.cells #[.pointer (some ⟨c, 0, none⟩), .slice none 0 0] 286)).alloc (.cells S 177)).drew.heap[t]? := fun t t' ht hn hd => (Below.heap_setCell _ _ _ _ (by simpa using hd)).trans (q4.block t ht.lt (own_nb oA ht hn))
  have e4 := q4.block w.heap.size td.lt (own_nb oA td (by decide))
  have hw := h.b.size
  have hwl := h.tg.lt
  have c4' : ∀ j, w4.cell? ⟨w.heap.size, j, none⟩ = wr.cell? ⟨w.heap.size, j, none⟩ := fun j => (World.cell?_of_block (a := ⟨w.heap.size, j, none⟩) e4).trans (B03.cell (p := ⟨w.heap.size, j, none⟩) hwl)
  have G4 : Tag w4 g4 177 := by
    rcases o4.2 with ⟨e3, _⟩ | ⟨g', cap', cur, e3, _, hh, _⟩
    · cases e3
    · simp only [Value.slice.injEq, Option.some.injEq, Addr.mk.injEq] at e3
      obtain ⟨⟨rfl, _⟩, _⟩ := e3
      exact ⟨cur, _, hh⟩
  have hgd : g4 ≠ w.heap.size := G4.ne (td.blk e4) (by decide)
  have hT : ∀ t, (t = wr.heap.size ∨ t = wr.heap.size + 1) → TRy N0 (w4.setCell ⟨w.heap.size, 1, none⟩ (.slice (some ⟨g4, 0, none⟩) (n + 1) c4)) c t t [] ∧ w.heap.size < t := fun t ht => by
    rcases ht with rfl | rfl
    · have := tgb _ _ T1'.tg (by decide) (by omega)
      exact ⟨T1'.same this this, by omega⟩
    · have := tgb _ _ T2'.tg (by decide) (by omega)
      exact ⟨T2'.same this this, by omega⟩
  refine ⟨?_, (cso (by simp)).trans ((c4' 0).trans h.d0), ⟨_, css ((c4' 1).trans e1), ?_⟩, (cso (by simp)).trans ((c4' 2).trans h.d2), (td.blk e4).set _ _, fun o => ?_, ?_, fun t ht => ?_⟩
  · have hK : Below w.heap.size w w4 := by
      refine ⟨q4.os.trans (B03.os.trans h.b.os), q4.tape.trans (B03.tape.trans h.b.tape), q4.output.trans (B03.output.trans h.b.output), Nat.le_trans h.b.size (Nat.le_trans B03.size q4.size), fun k hk => ?_⟩
      refine (q4.block k (Nat.lt_of_lt_of_le (Nat.lt_of_lt_of_le hk hw) B03.size) (fun e => ?_)).trans ((B03.block k (Nat.lt_of_lt_of_le hk hw)).trans (h.b.block k hk))
      have := (o1.lt k e.symm).1
      omega
    exact hK.setCell (by simp) _
  · rw [flatP_end, List.length_append, hl]
    exact own_keepF o4 (fun g hg => by
      simp only [Value.ownBlock, Option.some.injEq] at hg
      subst hg
      exact Below.heap_setCell _ _ _ _ hgd)
  · rw [World.frozen?_setCell]
    exact (World.frozen?_of_block (a := ⟨w.heap.size, o, none⟩) e4).trans ((B03.frozen (p := ⟨w.heap.size, o, none⟩) hwl).trans (h.fz o))
  · rw [trs_end]
    have hlt : ∀ t ∈ trs ws [], t < wr.heap.size := fun t ht => (h.tr t ht).1.tg.lt
    refine List.nodup_append.2 ⟨h.nd, ?_, fun x hx y hy e => ?_⟩
    · rcases hAB with ⟨rfl, rfl⟩ | ⟨rfl, rfl⟩ <;> simp
    · subst e
      have := hlt x hx
      simp only [List.mem_cons, List.not_mem_nil, or_false] at hy
      rcases hAB with ⟨rfl, rfl⟩ | ⟨rfl, rfl⟩ <;> omega
  · rw [trs_end] at ht
    rcases List.mem_append.1 ht with h1 | h1
    · have hh := h.tr t h1
      have hb := (hh.1.b B03)
      have := tgb t 286 hb.tg (by decide) (by omega)
      exact ⟨hb.same this this, hh.2⟩
    · simp only [List.mem_cons, List.not_mem_nil, or_false] at h1
      exact hT t (by omega)
set_option maxRecDepth 100000 in
set_option maxHeartbeats 8000000 in
theorem dnew_ok (N0 : Nat) (c : Nat) (x : Nat) (w : World) (hN : N0 ≤ w.heap.size) (hx : 1 ≤ x ∧ x ≤ 4) : Calls Tryz.prog 67 #[.pointer (some ⟨c, 0, none⟩), .int .i64 (x : Int)] w fun ev w' => ev = .returned (.tuple #[.pointer (some ⟨w.heap.size, 0, none⟩), .nilIface]) ∧ ∃ ws, ws.length = x ∧ DN N0 w c ws w' := by
  obtain ⟨i0, hi0, hz0, hz1, hz2⟩ := info_parts info168
  have HI := hide hi0
  have HZ := hide hz0
  have HZ1 := hide hz1
  have HZ2 := hide hz2
  clear hi0 hz0 hz1 hz2
  have F1 := ballo (Below.refl w.heap.size w) (.cells #[.pointer (some ⟨c, 0, none⟩), .slice none 0 0, .slice none 0 0] 182)
  have q' := World.cell?_alloc_new w #[.pointer (some ⟨c, 0, none⟩), .slice none 0 0, .slice none 0 0] 182
  have D0 : Hid (DN N0 w c [] (w.alloc (.cells #[.pointer (some ⟨c, 0, none⟩), .slice none 0 0, .slice none 0 0] 182))) := ⟨F1, q' 0, ⟨_, q' 1, World.ownsRow_nil _ _ _ _⟩, q' 2, tag_new _ _ _, fun o => World.frozen?_alloc_at _ _ w.heap.size o rfl, List.nodup_nil, fun t ht => by cases ht⟩
  clear F1 q'
  have d1 : decide ((x : Int) < 1) = false := by simp; omega
  have d2 : decide ((x : Int) > 4) = false := by simp; omega
  go_enter Tryz.func67, Tryz.ntmps67
  go_upto_region 6 with (fail)
  generalize w.alloc (.cells #[.pointer (some ⟨c, 0, none⟩), .slice none 0 0, .slice none 0 0] 182) = W at *
  go_wp2_with fail
  go_loopw [21] (fun s wr => ∃ (j : Nat) (ws : List (Nat × Nat)), s = .int .i64 j ∧ j ≤ x ∧ ws.length = j ∧ Hid (DN N0 w c ws wr)) (fun s _ => x - (RowKit.intOf s).toNat)
  case atStart => exact ⟨0, [], rfl, Nat.zero_le _, rfl, D0⟩
  case round =>
    clear D0
    obtain ⟨j, ws, rfl, hj, hl, hD⟩ := hrel
    by_cases hjx : j < x
    · have hjl : (j : Int) < (x : Int) := by omega
      have hD' := unhide hD
      obtain ⟨v, e1, o1⟩ := hD'.d1
      rw [hl] at o1
      obtain ⟨p, cp, rfl⟩ := own_sl o1
      have dl := hD'.tg.lt
      have hNr : N0 ≤ wr.heap.size := Nat.le_trans hN hD'.b.size
      have hdf := hD'.fz 1
      have tgd := hD'.tg
      have B1 : Below wr.heap.size wr (wr.alloc (.cells #[.pointer (some ⟨c, 0, none⟩), .slice none 0 0] 286)) := ballo (Below.refl _ _) _
      have B2 : Below wr.heap.size wr ((wr.alloc (.cells #[.pointer (some ⟨c, 0, none⟩), .slice none 0 0] 286)).alloc (.cells #[.pointer (some ⟨c, 0, none⟩), .slice none 0 0] 286)) := ballo (ballo (Below.refl _ _) _) _
      have BX : Below wr.heap.size wr (((wr.alloc (.cells #[.pointer (some ⟨c, 0, none⟩), .slice none 0 0] 286)).alloc (.cells #[.pointer (some ⟨c, 0, none⟩), .slice none 0 0] 286)).alloc (.cells #[.pointer (some ⟨wr.heap.size, 0, none⟩), .pointer (some ⟨(wr.heap.size + 1), 0, none⟩)] 177)).drew := (ballo (ballo (ballo (Below.refl _ _) _) _) _).drew
      have e1a := (B1.cell (p := ⟨w.heap.size, 1, none⟩) dl).trans e1
      have e1b := (B2.cell (p := ⟨w.heap.size, 1, none⟩) dl).trans e1
      have e1x : (((wr.alloc (.cells #[.pointer (some ⟨c, 0, none⟩), .slice none 0 0] 286)).alloc (.cells #[.pointer (some ⟨c, 0, none⟩), .slice none 0 0] 286)).alloc (.cells #[.pointer (some ⟨wr.heap.size, 0, none⟩), .pointer (some ⟨(wr.heap.size + 1), 0, none⟩)] 177)).cell? ⟨w.heap.size, 1, none⟩ = some (.slice p j cp) := (BX.cell (p := ⟨w.heap.size, 1, none⟩) dl).trans e1
      have oAx := own_b o1 BX
      have tAx := tgd.b BX
      have zAx := (⟨(BX.cell (p := ⟨w.heap.size, 1, none⟩) dl).trans e1, (BX.frozen (p := ⟨w.heap.size, 1, none⟩) dl).trans hdf⟩ : (((wr.alloc (.cells #[.pointer (some ⟨c, 0, none⟩), .slice none 0 0] 286)).alloc (.cells #[.pointer (some ⟨c, 0, none⟩), .slice none 0 0] 286)).alloc (.cells #[.pointer (some ⟨wr.heap.size, 0, none⟩), .pointer (some ⟨(wr.heap.size + 1), 0, none⟩)] 177)).drew.cell? ⟨w.heap.size, 1, none⟩ = some (.slice p j cp) ∧ (((wr.alloc (.cells #[.pointer (some ⟨c, 0, none⟩), .slice none 0 0] 286)).alloc (.cells #[.pointer (some ⟨c, 0, none⟩), .slice none 0 0] 286)).alloc (.cells #[.pointer (some ⟨wr.heap.size, 0, none⟩), .pointer (some ⟨(wr.heap.size + 1), 0, none⟩)] 177)).drew.frozen? ⟨w.heap.size, 1, none⟩ = false)
      have hwn : w.heap.size ≤ (((wr.alloc (.cells #[.pointer (some ⟨c, 0, none⟩), .slice none 0 0] 286)).alloc (.cells #[.pointer (some ⟨c, 0, none⟩), .slice none 0 0] 286)).alloc (.cells #[.pointer (some ⟨wr.heap.size, 0, none⟩), .pointer (some ⟨(wr.heap.size + 1), 0, none⟩)] 177)).drew.heap.size := Nat.le_trans hD'.b.size BX.size
      have hs2 : ((wr.alloc (.cells #[.pointer (some ⟨c, 0, none⟩), .slice none 0 0] 286)).alloc (.cells #[.pointer (some ⟨c, 0, none⟩), .slice none 0 0] 286)).heap.size = wr.heap.size + 1 + 1 := by simp
      have nx := World.cell?_alloc_new ((wr.alloc (.cells #[.pointer (some ⟨c, 0, none⟩), .slice none 0 0] 286)).alloc (.cells #[.pointer (some ⟨c, 0, none⟩), .slice none 0 0] 286)) #[.pointer (some ⟨wr.heap.size, 0, none⟩), .pointer (some ⟨wr.heap.size + 1, 0, none⟩)] 177
      rw [hs2] at nx
      have n0x := nx 0
      have n1x := nx 1
      simp only [List.getElem?_toArray, List.getElem?_cons_zero, List.getElem?_cons_succ] at n0x n1x
      clear nx hs2
      clear hD' B1 B2 BX
      go_wp2_with fail
      go_region_law (first
        | (refine step_append_lies _ rfl (.tmp 27) (.tmp 33) 179 rfl w.heap.size 177 i0 (.agg #[.pointer none, .pointer none]) 2 16 Tryz.underlying179 (unhide HI) (unhide HZ) (unhide HZ1) (unhide HZ2) rfl (by decide) (.slice p j cp) j (flatP ws) (by simp [Act.eval]) oAx ⟨wr.heap.size + 1 + 1, 0, none⟩ 1 1 [.pointer (some ⟨wr.heap.size, 0, none⟩), .pointer (some ⟨(wr.heap.size + 1), 0, none⟩)] (by simp [Act.eval]) rfl (by intro j' u hj; match j', hj with | 0, hj => (simp at hj; subst hj; simp [Addr.add, n0x]) | 1, hj => (simp at hj; subst hj; simp [Addr.add, n1x])) (by intro u hu; simp at hu; rcases hu with rfl | rfl <;> rfl) (by omega) (by unfold maxLen; omega) (by omega) hwn _ rfl ?_; intro g4 c4 w4 o4 q4 hg4 hg5; have e4 := q4.block w.heap.size tAx.lt (own_nb oAx tAx (by decide)); have zc4 : w4.cell? ⟨w.heap.size, 1, none⟩ = some (.slice p j cp) := (World.cell?_of_block (a := ⟨w.heap.size, 1, none⟩) e4).trans zAx.1; have zf4 : w4.frozen? ⟨w.heap.size, 1, none⟩ = false := (World.frozen?_of_block (a := ⟨w.heap.size, 1, none⟩) e4).trans zAx.2; have HDS := hide ((unhide hD).step hN (A := wr.heap.size) (B := (wr.heap.size + 1)) (Or.inl ⟨rfl, rfl⟩) hl e1 o1 o4 q4))
        | (go_simp; go_at_call 145; refine (tray_ok N0 c _ (by first | exact hNr | (simp; omega))).mono ?_; rintro ev w' ⟨rfl, rfl⟩))
      all_goals
        have hln : (ws ++ [(wr.heap.size, wr.heap.size + 1)]).length = j + 1 := by simp [hl]
        clear zc4 zf4 e4 o4 q4 hg4 hg5 e1 e1a e1b e1x oAx tAx zAx n0x n1x o1
        generalize w4.setCell ⟨w.heap.size, 1, none⟩ (.slice (some ⟨g4, 0, none⟩) (j + 1) c4) = w5 at *
        go_wp2_with fail
        go_roundw
        case rel => exact ⟨j + 1, _, by go_num, by omega, hln, HDS⟩
        case measure => simp [RowKit.intOf]; omega
    · obtain rfl : j = x := by omega
      have hnl : ¬ (j : Int) < j := by omega
      go_wp2_with fail
      go_ret2
      exact ⟨rfl, ws, hl, unhide hD⟩
end Mg
end Go.Proofs.YtcbmfakjfoggaaaGreatDoor
namespace Go.Proofs.YtcbmfakjfoggaaaGreatDoor
open Go.RowKit Go.Maps
namespace Sb
open Fr Bd Zn Dz
def totL (m : Nat) : List Sl → Nat
  | [] => 0
  | s :: l => pop s.bm m + totL m l
theorem totL_append (m : Nat) : ∀ (l k : List Sl), totL m (l ++ k) = totL m l + totL m k
  | [], k => by simp [totL]
  | s :: l, k => by simp only [List.cons_append, totL, totL_append m l k]; omega
theorem totL_ins (m : Nat) (l : List Sl) (q : Nat) (x : Sl) : totL m (Sb.ins l q x) = totL m l + pop x.bm m := by
  have h : totL m l = totL m (l.take q) + totL m (l.drop q) := by rw [← totL_append, List.take_append_drop]
  unfold Sb.ins
  rw [totL_append, totL, h]; omega
theorem totL_set (m : Nat) : ∀ (l : List Sl) (j : Nat) (s x : Sl), l[j]? = some s → totL m (l.set j x) + pop s.bm m = totL m l + pop x.bm m
  | [], j, s, x, h => by simp at h
  | y :: l, 0, s, x, h => by simp at h; subst h; simp only [List.set_cons_zero, totL]; omega
  | y :: l, j + 1, s, x, h => by
    have := totL_set m l j s x (by simpa using h)
    simp only [List.set_cons_succ, totL]; omega
theorem totL_le (m : Nat) : ∀ (l : List Sl), totL m l ≤ l.length * m
  | [] => by simp [totL]
  | s :: l => by
    have h1 := totL_le m l
    have h2 := pop_le s.bm m
    simp only [totL, List.length_cons, Nat.add_mul]; omega
theorem totL_full (m : Nat) : ∀ (l : List Sl), (∀ s ∈ l, ¬ pop s.bm m < m) → totL m l = l.length * m
  | [], _ => by simp [totL]
  | s :: l, h => by
    have h1 := totL_full m l (fun t ht => h t (List.mem_cons_of_mem _ ht))
    have h2 := pop_le s.bm m
    have h3 := h s (List.mem_cons_self ..)
    simp only [totL, List.length_cons, Nat.add_mul]; omega
theorem totL_lt (m : Nat) {l : List Sl} {j : Nat} {s : Sl} (h : l[j]? = some s) (hp : pop s.bm m < m) : totL m l < l.length * m := by
  have hj : j < l.length := (List.getElem?_eq_some_iff.mp h).1
  have e : l = Sb.ins (l.eraseIdx j) j s := by
    unfold Sb.ins
    rw [List.eraseIdx_eq_take_drop_succ]
    have h1 : (l.take j).length = j := by simp; omega
    rw [List.take_append_of_le_length (by omega), List.take_take, Nat.min_self, List.drop_append_of_le_length (by omega), List.drop_eq_nil_of_le (by omega), List.nil_append]
    have h2 : l[j] = s := (List.getElem?_eq_some_iff.mp h).2
    rw [← h2, List.getElem_cons_drop, List.take_append_drop]
  have h3 := totL_ins m (l.eraseIdx j) j s
  rw [← e] at h3
  have h4 := totL_le m (l.eraseIdx j)
  have h5 : (l.eraseIdx j).length = l.length - 1 := by rw [List.length_eraseIdx]; simp [hj]
  rw [h5] at h4
  have h6 : (l.length - 1) * m + m = l.length * m := by
    obtain ⟨n, hn⟩ : ∃ n, l.length = n + 1 := ⟨l.length - 1, by omega⟩
    rw [hn, Nat.add_mul]; simp
  omega
theorem pop_setbit {x m : Nat} (hx : x < 2 ^ m) (hm : m ≤ 64) (hp : pop x m < m) : pop (x ||| 2 ^ ff x) m = pop x m + 1 := by
  obtain ⟨h1, h2, _⟩ := ff_spec hx hm hp
  rw [pop_set x (ff x) h2 m, if_pos h1]
theorem bst_all {m nd : Nat} {ss : List Sl} (h : (bst m nd ss ss.length).1 = none) (hs : ∀ s ∈ ss, s.nd = nd) : ∀ s ∈ ss, ¬ pop s.bm m < m := by
  intro s hm
  obtain ⟨i, hi, e⟩ := List.getElem_of_mem hm
  have e2 := List.getElem?_eq_getElem hi
  rw [e] at e2
  have := bst_none h i hi (by rw [getD_at e2]; exact hs s hm)
  rwa [getD_at e2] at this
theorem pgs_pos : ∀ {l : List Bl}, 0 ≤ pgs l ∧ (l ≠ [] → 1 ≤ pgs l)
  | [] => ⟨by simp [pgs], fun h => absurd rfl h⟩
  | x :: l => by
    have h1 := (pgs_pos (l := l)).1
    have h2 := pw_pos x.2
    simp only [pgs]
    exact ⟨by omega, fun _ => by omega⟩
/-- One node's pages, so many of them slabs; so many objects. -/
structure Fill (pg : Nat) (m : Nat) (d : Nd) (ss : List Sl) (t : Nat) : Prop where
  ok : d.ok
  pg : pgs d.F + ss.length = pg
  tt : totL m ss = t
  nd : ∀ s ∈ ss, s.nd = 0
theorem tkC_true {o mn : Int} {d : Nd} (h : tkC o mn true d ≠ 2) : fit o d.F = none := by
  cases hf : fit o d.F with
  | none => rfl
  | some x => simp [tkC, hf] at h
theorem fit0_nil {d : Nd} (hok : d.ok) (h : fit 0 d.F = none) : d.F = [] := by
  rw [fit_none] at h
  cases hF : d.F with
  | nil => rfl
  | cons x l =>
    have h1 := h x (by rw [hF]; exact List.mem_cons_self ..)
    have h2 := (hok.2.2.oF x (by rw [hF]; exact List.mem_cons_self ..)).1
    omega
section
variable {N0 c z : Nat} {ly : Ly} {sz : Int} {m : Nat} {bs : List Nat} {ss : List Sl} {mn lw hi : Int} {nb fm tm : Nat → Nat} {nd : Nat → Nd} {fr : Nat → List Nat} {e : Nat → Addr} {w w' : World} {ev : Ending} {pg t : Nat}
end
end Sb
end Go.Proofs.YtcbmfakjfoggaaaGreatDoor
