/- A depot's New, by contract · A depot's count, its Held. -/
import Derived.Test.YtfefehkapffljaaGreatDoorMH
import Derived.Test.YtfefehkapffljaaGreatDoorKI
namespace Go.Proofs.YtfefehkapffljaaGreatDoor
open Go.RowKit Go.Maps
namespace Mg
open Fr Bd Zn Dz Sb
theorem info168 : (Tryz.prog.info? 168).map (fun i => (i.zero, i.size, i.bytes)) = some (some (.agg #[.pointer none, .pointer none]), 2, 16) := by kernel_rfl
theorem dnew_nil (x : Int) (w : World) (e : Nat → Addr) (he : ErrsM w e) : Calls Tryz.prog 34 #[.pointer none, .int .i64 x] w fun ev w' => ev = .returned (.tuple #[.pointer none, errV (e 2)]) ∧ Below w.heap.size w w' := by
  have E2 := he.v2
  clear he
  unfold errV at *
  go_enter Tryz.func34, Tryz.ntmps34
  go_wp2
  go_quiet (fail)
  go_wp2
  go_ret2
  exact ⟨rfl, bdN (Below.refl _ _) _⟩
theorem dnew_bad (c : Nat) (x : Int) (w : World) (e : Nat → Addr) (he : ErrsM w e) (hx : x < 1 ∨ 4 < x) : Calls Tryz.prog 34 #[.pointer (some ⟨c, 0, none⟩), .int .i64 x] w fun ev w' => ev = .returned (.tuple #[.pointer none, errV (e 1)]) ∧ Below w.heap.size w w' := by
  have E1 := he.v1
  clear he
  unfold errV at *
  by_cases h1 : x < 1
  · have d1 : decide (x < 1) = true := by simpa using h1
    go_enter Tryz.func34, Tryz.ntmps34
    go_wp2
    go_quiet (fail)
    go_wp2
    go_ret2
    exact ⟨rfl, bdN (Below.refl _ _) _⟩
  · have d1 : decide (x < 1) = false := by simpa using h1
    have d2 : decide (x > 4) = true := by simp; omega
    go_enter Tryz.func34, Tryz.ntmps34
    go_wp2
    go_quiet (fail)
    go_wp2
    go_ret2
    exact ⟨rfl, bdN (Below.refl _ _) _⟩
/-- A depot that is being made: so many workers have their trays. -/
structure DN (N0 : Nat) (w : World) (c : Nat) (ws : List (Nat × Nat)) (W : World) : Prop where
  b : Below w.heap.size w W
  d0 : W.cell? ⟨w.heap.size, 0, none⟩ = some (ptr c)
  d1 : ∃ v, W.cell? ⟨w.heap.size, 1, none⟩ = some v ∧ W.ownsRow w.heap.size 168 2 v ws.length (flatP ws)
  d2 : W.cell? ⟨w.heap.size, 2, none⟩ = some (.slice none 0 0)
  tg : Tag W w.heap.size 164
  fz : ∀ o, W.frozen? ⟨w.heap.size, o, none⟩ = false
  nd : (trs ws []).Nodup
  tr : ∀ t ∈ trs ws [], TRy N0 W c t t [] ∧ w.heap.size < t
theorem trs_end (ws : List (Nat × Nat)) (a b : Nat) : trs (ws ++ [(a, b)]) [] = trs ws [] ++ [a, b] := by unfold trs; simp
theorem flatP_end (ws : List (Nat × Nat)) (a b : Nat) : flatP (ws ++ [(a, b)]) = flatP ws ++ [ptr a, ptr b] := by unfold flatP; simp
theorem DN.step {N0 : Nat} {w wr w4 : World} {c : Nat} {ws : List (Nat × Nat)} (h : DN N0 w c ws wr) (hN : N0 ≤ w.heap.size) {A B : Nat} (hAB : (A = wr.heap.size ∧ B = wr.heap.size + 1) ∨ (A = wr.heap.size + 1 ∧ B = wr.heap.size)) {p : Option Addr} {n cp g4 c4 : Nat} {S : Array Value} (hl : ws.length = n) (e1 : wr.cell? ⟨w.heap.size, 1, none⟩ = some (.slice p n cp)) (o1 : wr.ownsRow w.heap.size 168 2 (.slice p n cp) n (flatP ws)) (o4 : w4.ownsRow w.heap.size 168 2 (.slice (some ⟨g4, 0, none⟩) (n + 1) c4) (n + 1) (flatP ws ++ [.pointer (some ⟨A, 0, none⟩), .pointer (some ⟨B, 0, none⟩)])) (q4 : (((wr.alloc (.cells #[.pointer (some ⟨c, 0, none⟩), .slice none 0 0] 194)).alloc (.cells #[.pointer (some ⟨c, 0, none⟩), .slice none 0 0] 194)).alloc (.cells S 168)).drew.grownBy w4 (Value.slice p n cp).ownBlock) :
    DN N0 w c (ws ++ [(A, B)]) (w4.setCell ⟨w.heap.size, 1, none⟩ (.slice (some ⟨g4, 0, none⟩) (n + 1) c4)) := by
  have hNr : N0 ≤ wr.heap.size := Nat.le_trans hN h.b.size
  have hs1 : (wr.alloc (.cells #[.pointer (some ⟨c, 0, none⟩), .slice none 0 0] 194)).heap.size = wr.heap.size + 1 := by simp
  have T1 := tray_new N0 c wr hNr
  have T2 := tray_new N0 c (wr.alloc (.cells #[.pointer (some ⟨c, 0, none⟩), .slice none 0 0] 194)) (by rw [hs1]; omega)
  rw [hs1] at T2
  have B12 := ballo (Below.refl (wr.alloc (.cells #[.pointer (some ⟨c, 0, none⟩), .slice none 0 0] 194)).heap.size (wr.alloc (.cells #[.pointer (some ⟨c, 0, none⟩), .slice none 0 0] 194))) (.cells #[.pointer (some ⟨c, 0, none⟩), .slice none 0 0] 194)
  have B23 := (ballo (Below.refl ((wr.alloc (.cells #[.pointer (some ⟨c, 0, none⟩), .slice none 0 0] 194)).alloc (.cells #[.pointer (some ⟨c, 0, none⟩), .slice none 0 0] 194)).heap.size ((wr.alloc (.cells #[.pointer (some ⟨c, 0, none⟩), .slice none 0 0] 194)).alloc (.cells #[.pointer (some ⟨c, 0, none⟩), .slice none 0 0] 194))) (.cells S 168)).drew
  have B03 : Below wr.heap.size wr (((wr.alloc (.cells #[.pointer (some ⟨c, 0, none⟩), .slice none 0 0] 194)).alloc (.cells #[.pointer (some ⟨c, 0, none⟩), .slice none 0 0] 194)).alloc (.cells S 168)).drew := (ballo (ballo (ballo (Below.refl _ _) _) _) _).drew
  have T1' := (T1.b B12).b B23
  have T2' := T2.b B23
  have oA := own_b o1 B03
  have td := h.tg.b B03
  have tgb : ∀ t t', Tag (((wr.alloc (.cells #[.pointer (some ⟨c, 0, none⟩), .slice none 0 0] 194)).alloc (.cells #[.pointer (some ⟨c, 0, none⟩), .slice none 0 0] 194)).alloc (.cells S 168)).drew t t' → t' ≠ 168 → t ≠ w.heap.size → (w4.setCell ⟨w.heap.size, 1, none⟩ (.slice (some ⟨g4, 0, none⟩) (n + 1) c4)).heap[t]? = (((wr.alloc (.cells #[.pointer (some ⟨c, 0, none⟩), .slice none 0 0] 194)).alloc (.cells #[.pointer (some ⟨c, 0, none⟩), .slice none 0 0] 194)).alloc (.cells S 168)).drew.heap[t]? := fun t t' ht hn hd => (Below.heap_setCell _ _ _ _ (by simpa using hd)).trans (q4.block t ht.lt (own_nb oA ht hn))
  have e4 := q4.block w.heap.size td.lt (own_nb oA td (by decide))
  have hw := h.b.size
  have hwl := h.tg.lt
  have c4' : ∀ j, w4.cell? ⟨w.heap.size, j, none⟩ = wr.cell? ⟨w.heap.size, j, none⟩ := fun j => (World.cell?_of_block (a := ⟨w.heap.size, j, none⟩) e4).trans (B03.cell (p := ⟨w.heap.size, j, none⟩) hwl)
  have G4 : Tag w4 g4 168 := by
    rcases o4.2 with ⟨e3, _⟩ | ⟨g', cap', cur, e3, _, hh, _⟩
    · cases e3
    · simp only [Value.slice.injEq, Option.some.injEq, Addr.mk.injEq] at e3
      obtain ⟨⟨rfl, _⟩, _⟩ := e3
      exact ⟨cur, _, hh⟩
  have hgd : g4 ≠ w.heap.size := G4.ne (td.blk e4) (by decide)
  have hT : ∀ t, (t = wr.heap.size ∨ t = wr.heap.size + 1) → TRy N0 (w4.setCell ⟨w.heap.size, 1, none⟩ (.slice (some ⟨g4, 0, none⟩) (n + 1) c4)) c t t [] ∧ w.heap.size < t := fun t ht => by
    rcases ht with rfl | rfl
    · have := tgb _ _ T1'.tg (by decide) (by omega)
      exact ⟨T1'.same this this, by omega⟩
    · have := tgb _ _ T2'.tg (by decide) (by omega)
      exact ⟨T2'.same this this, by omega⟩
  refine ⟨?_, (cso (by simp)).trans ((c4' 0).trans h.d0), ⟨_, css ((c4' 1).trans e1), ?_⟩, (cso (by simp)).trans ((c4' 2).trans h.d2), (td.blk e4).set _ _, fun o => ?_, ?_, fun t ht => ?_⟩
  · have hK : Below w.heap.size w w4 := by
      refine ⟨q4.os.trans (B03.os.trans h.b.os), q4.tape.trans (B03.tape.trans h.b.tape), q4.output.trans (B03.output.trans h.b.output), Nat.le_trans h.b.size (Nat.le_trans B03.size q4.size), fun k hk => ?_⟩
      refine (q4.block k (Nat.lt_of_lt_of_le (Nat.lt_of_lt_of_le hk hw) B03.size) (fun e => ?_)).trans ((B03.block k (Nat.lt_of_lt_of_le hk hw)).trans (h.b.block k hk))
      have := (o1.lt k e.symm).1
      omega
    exact hK.setCell (by simp) _
  · rw [flatP_end, List.length_append, hl]
    exact own_keepF o4 (fun g hg => by
      simp only [Value.ownBlock, Option.some.injEq] at hg
      subst hg
      exact Below.heap_setCell _ _ _ _ hgd)
  · rw [World.frozen?_setCell]
    exact (World.frozen?_of_block (a := ⟨w.heap.size, o, none⟩) e4).trans ((B03.frozen (p := ⟨w.heap.size, o, none⟩) hwl).trans (h.fz o))
  · rw [trs_end]
    have hlt : ∀ t ∈ trs ws [], t < wr.heap.size := fun t ht => (h.tr t ht).1.tg.lt
    refine List.nodup_append.2 ⟨h.nd, ?_, fun x hx y hy e => ?_⟩
    · rcases hAB with ⟨rfl, rfl⟩ | ⟨rfl, rfl⟩ <;> simp
    · subst e
      have := hlt x hx
      simp only [List.mem_cons, List.not_mem_nil, or_false] at hy
      rcases hAB with ⟨rfl, rfl⟩ | ⟨rfl, rfl⟩ <;> omega
  · rw [trs_end] at ht
    rcases List.mem_append.1 ht with h1 | h1
    · have hh := h.tr t h1
      have hb := (hh.1.b B03)
      have := tgb t 194 hb.tg (by decide) (by omega)
      exact ⟨hb.same this this, hh.2⟩
    · simp only [List.mem_cons, List.not_mem_nil, or_false] at h1
      exact hT t (by omega)
set_option maxRecDepth 100000 in
set_option maxHeartbeats 8000000 in
theorem dnew_ok (N0 : Nat) (c : Nat) (x : Nat) (w : World) (hN : N0 ≤ w.heap.size) (hx : 1 ≤ x ∧ x ≤ 4) : Calls Tryz.prog 34 #[.pointer (some ⟨c, 0, none⟩), .int .i64 (x : Int)] w fun ev w' => ev = .returned (.tuple #[.pointer (some ⟨w.heap.size, 0, none⟩), .nilIface]) ∧ ∃ ws, ws.length = x ∧ DN N0 w c ws w' := by
  obtain ⟨i0, hi0, hz0, hz1, hz2⟩ := info_parts info168
  have HI := hide hi0
  have HZ := hide hz0
  have HZ1 := hide hz1
  have HZ2 := hide hz2
  clear hi0 hz0 hz1 hz2
  have F1 := ballo (Below.refl w.heap.size w) (.cells #[.pointer (some ⟨c, 0, none⟩), .slice none 0 0, .slice none 0 0] 164)
  have q' := World.cell?_alloc_new w #[.pointer (some ⟨c, 0, none⟩), .slice none 0 0, .slice none 0 0] 164
  have D0 : Hid (DN N0 w c [] (w.alloc (.cells #[.pointer (some ⟨c, 0, none⟩), .slice none 0 0, .slice none 0 0] 164))) := ⟨F1, q' 0, ⟨_, q' 1, World.ownsRow_nil _ _ _ _⟩, q' 2, tag_new _ _ _, fun o => World.frozen?_alloc_at _ _ w.heap.size o rfl, List.nodup_nil, fun t ht => by cases ht⟩
  clear F1 q'
  have d1 : decide ((x : Int) < 1) = false := by simp; omega
  have d2 : decide ((x : Int) > 4) = false := by simp; omega
  go_enter Tryz.func34, Tryz.ntmps34
  go_upto_region 6 with (fail)
  generalize w.alloc (.cells #[.pointer (some ⟨c, 0, none⟩), .slice none 0 0, .slice none 0 0] 164) = W at *
  go_wp2_with fail
  go_loopw [21] (fun s wr => ∃ (j : Nat) (ws : List (Nat × Nat)), s = .int .i64 j ∧ j ≤ x ∧ ws.length = j ∧ Hid (DN N0 w c ws wr)) (fun s _ => x - (RowKit.intOf s).toNat)
  case atStart => exact ⟨0, [], rfl, Nat.zero_le _, rfl, D0⟩
  case round =>
    clear D0
    obtain ⟨j, ws, rfl, hj, hl, hD⟩ := hrel
    by_cases hjx : j < x
    · have hjl : (j : Int) < (x : Int) := by omega
      have hD' := unhide hD
      obtain ⟨v, e1, o1⟩ := hD'.d1
      rw [hl] at o1
      obtain ⟨p, cp, rfl⟩ := own_sl o1
      have dl := hD'.tg.lt
      have hNr : N0 ≤ wr.heap.size := Nat.le_trans hN hD'.b.size
      have hdf := hD'.fz 1
      have tgd := hD'.tg
      have B1 : Below wr.heap.size wr (wr.alloc (.cells #[.pointer (some ⟨c, 0, none⟩), .slice none 0 0] 194)) := ballo (Below.refl _ _) _
      have B2 : Below wr.heap.size wr ((wr.alloc (.cells #[.pointer (some ⟨c, 0, none⟩), .slice none 0 0] 194)).alloc (.cells #[.pointer (some ⟨c, 0, none⟩), .slice none 0 0] 194)) := ballo (ballo (Below.refl _ _) _) _
      have BX : Below wr.heap.size wr (((wr.alloc (.cells #[.pointer (some ⟨c, 0, none⟩), .slice none 0 0] 194)).alloc (.cells #[.pointer (some ⟨c, 0, none⟩), .slice none 0 0] 194)).alloc (.cells #[.pointer (some ⟨wr.heap.size, 0, none⟩), .pointer (some ⟨(wr.heap.size + 1), 0, none⟩)] 168)).drew := (ballo (ballo (ballo (Below.refl _ _) _) _) _).drew
      have e1a := (B1.cell (p := ⟨w.heap.size, 1, none⟩) dl).trans e1
      have e1b := (B2.cell (p := ⟨w.heap.size, 1, none⟩) dl).trans e1
      have e1x : (((wr.alloc (.cells #[.pointer (some ⟨c, 0, none⟩), .slice none 0 0] 194)).alloc (.cells #[.pointer (some ⟨c, 0, none⟩), .slice none 0 0] 194)).alloc (.cells #[.pointer (some ⟨wr.heap.size, 0, none⟩), .pointer (some ⟨(wr.heap.size + 1), 0, none⟩)] 168)).cell? ⟨w.heap.size, 1, none⟩ = some (.slice p j cp) := (BX.cell (p := ⟨w.heap.size, 1, none⟩) dl).trans e1
      have oAx := own_b o1 BX
      have tAx := tgd.b BX
      have zAx := (⟨(BX.cell (p := ⟨w.heap.size, 1, none⟩) dl).trans e1, (BX.frozen (p := ⟨w.heap.size, 1, none⟩) dl).trans hdf⟩ : (((wr.alloc (.cells #[.pointer (some ⟨c, 0, none⟩), .slice none 0 0] 194)).alloc (.cells #[.pointer (some ⟨c, 0, none⟩), .slice none 0 0] 194)).alloc (.cells #[.pointer (some ⟨wr.heap.size, 0, none⟩), .pointer (some ⟨(wr.heap.size + 1), 0, none⟩)] 168)).drew.cell? ⟨w.heap.size, 1, none⟩ = some (.slice p j cp) ∧ (((wr.alloc (.cells #[.pointer (some ⟨c, 0, none⟩), .slice none 0 0] 194)).alloc (.cells #[.pointer (some ⟨c, 0, none⟩), .slice none 0 0] 194)).alloc (.cells #[.pointer (some ⟨wr.heap.size, 0, none⟩), .pointer (some ⟨(wr.heap.size + 1), 0, none⟩)] 168)).drew.frozen? ⟨w.heap.size, 1, none⟩ = false)
      have hwn : w.heap.size ≤ (((wr.alloc (.cells #[.pointer (some ⟨c, 0, none⟩), .slice none 0 0] 194)).alloc (.cells #[.pointer (some ⟨c, 0, none⟩), .slice none 0 0] 194)).alloc (.cells #[.pointer (some ⟨wr.heap.size, 0, none⟩), .pointer (some ⟨(wr.heap.size + 1), 0, none⟩)] 168)).drew.heap.size := Nat.le_trans hD'.b.size BX.size
      have hs2 : ((wr.alloc (.cells #[.pointer (some ⟨c, 0, none⟩), .slice none 0 0] 194)).alloc (.cells #[.pointer (some ⟨c, 0, none⟩), .slice none 0 0] 194)).heap.size = wr.heap.size + 1 + 1 := by simp
      have nx := World.cell?_alloc_new ((wr.alloc (.cells #[.pointer (some ⟨c, 0, none⟩), .slice none 0 0] 194)).alloc (.cells #[.pointer (some ⟨c, 0, none⟩), .slice none 0 0] 194)) #[.pointer (some ⟨wr.heap.size, 0, none⟩), .pointer (some ⟨wr.heap.size + 1, 0, none⟩)] 168
      rw [hs2] at nx
      have n0x := nx 0
      have n1x := nx 1
      simp only [List.getElem?_toArray, List.getElem?_cons_zero, List.getElem?_cons_succ] at n0x n1x
      clear nx hs2
      clear hD' B1 B2 BX
      go_wp2_with fail
      go_region_law (first
        | (refine step_append_lies _ rfl (.tmp 27) (.tmp 33) 161 rfl w.heap.size 168 i0 (.agg #[.pointer none, .pointer none]) 2 16 Tryz.underlying161 (unhide HI) (unhide HZ) (unhide HZ1) (unhide HZ2) rfl (by decide) (.slice p j cp) j (flatP ws) (by simp [Act.eval]) oAx ⟨wr.heap.size + 1 + 1, 0, none⟩ 1 1 [.pointer (some ⟨wr.heap.size, 0, none⟩), .pointer (some ⟨(wr.heap.size + 1), 0, none⟩)] (by simp [Act.eval]) rfl (by intro j' u hj; match j', hj with | 0, hj => (simp at hj; subst hj; simp [Addr.add, n0x]) | 1, hj => (simp at hj; subst hj; simp [Addr.add, n1x])) (by intro u hu; simp at hu; rcases hu with rfl | rfl <;> rfl) (by omega) (by unfold maxLen; omega) (by omega) hwn _ rfl ?_; intro g4 c4 w4 o4 q4 hg4 hg5; have e4 := q4.block w.heap.size tAx.lt (own_nb oAx tAx (by decide)); have zc4 : w4.cell? ⟨w.heap.size, 1, none⟩ = some (.slice p j cp) := (World.cell?_of_block (a := ⟨w.heap.size, 1, none⟩) e4).trans zAx.1; have zf4 : w4.frozen? ⟨w.heap.size, 1, none⟩ = false := (World.frozen?_of_block (a := ⟨w.heap.size, 1, none⟩) e4).trans zAx.2; have HDS := hide ((unhide hD).step hN (A := wr.heap.size) (B := (wr.heap.size + 1)) (Or.inl ⟨rfl, rfl⟩) hl e1 o1 o4 q4))
        | (go_simp; go_at_call 96; refine (tray_ok N0 c _ (by first | exact hNr | (simp; omega))).mono ?_; rintro ev w' ⟨rfl, rfl⟩))
      all_goals
        have hln : (ws ++ [(wr.heap.size, wr.heap.size + 1)]).length = j + 1 := by simp [hl]
        clear zc4 zf4 e4 o4 q4 hg4 hg5 e1 e1a e1b e1x oAx tAx zAx n0x n1x o1
        generalize w4.setCell ⟨w.heap.size, 1, none⟩ (.slice (some ⟨g4, 0, none⟩) (j + 1) c4) = w5 at *
        go_wp2_with fail
        go_roundw
        case rel => exact ⟨j + 1, _, by go_num, by omega, hln, HDS⟩
        case measure => simp [RowKit.intOf]; omega
    · obtain rfl : j = x := by omega
      have hnl : ¬ (j : Int) < j := by omega
      go_wp2_with fail
      go_ret2
      exact ⟨rfl, ws, hl, unhide hD⟩
end Mg
end Go.Proofs.YtfefehkapffljaaGreatDoor
namespace Go.Proofs.YtfefehkapffljaaGreatDoor
open Go.RowKit Go.Maps
namespace Mg
open Fr Bd Zn Dz Sb
/-- How many objects lie on the first trays. -/
def sumT (ct : Nat → List Bl) (L : List Nat) : Nat → Nat
  | 0 => 0
  | i + 1 => sumT ct L i + (match L[i]? with | some t => (ct t).length | none => 0)
theorem sumT_at {ct : Nat → List Bl} {L : List Nat} {i t : Nat} (h : L[i]? = some t) : sumT ct L (i + 1) = sumT ct L i + (ct t).length := by rw [sumT, h]
theorem sumT_le {ct : Nat → List Bl} {L : List Nat} (h : ∀ t ∈ L, (ct t).length ≤ 4) : ∀ i, sumT ct L i ≤ i * 4
  | 0 => by simp [sumT]
  | i + 1 => by
    have h1 := sumT_le h i
    rw [sumT]
    cases hL : L[i]? with
    | none => simp only; omega
    | some t =>
      have := h t (List.mem_of_getElem? hL)
      simp only
      omega
set_option maxRecDepth 100000 in
set_option maxHeartbeats 4000000 in
theorem count_ok {N0 c : Nat} {ct : Nat → List Bl} {w : World} {g cp : Nat} {L : List Nat} (hL : ∀ i t, L[i]? = some t → w.cell? ⟨g, i, none⟩ = some (.pointer (some ⟨t, 0, none⟩))) (hT : ∀ t ∈ L, ∃ r, TRy N0 w c t r (ct t)) (h4 : ∀ t ∈ L, (ct t).length ≤ 4) (hl : L.length ≤ 1000000) :
    Calls Tryz.prog 146 #[.slice (some ⟨g, 0, none⟩) L.length cp] w fun ev w' => ev = .returned (.int .i64 (sumT ct L L.length)) ∧ w' = w := by
  have HL := hide hL
  have HT := hide hT
  have HS := hide (sumT_le h4)
  generalize hn : L.length = n at *
  have HN := hide hn
  clear hL hT h4 hn
  go_enter Tryz.func146, Tryz.ntmps146
  go_wp2
  go_loopw [3, 8] (fun s3 s8 wr => ∃ i : Nat, s3 = .int .i64 (sumT ct L i) ∧ s8 = .int .i64 i ∧ i ≤ n ∧ Hid (w = wr)) (fun _ s8 _ => n - (RowKit.intOf s8).toNat)
  case atStart => exact ⟨0, rfl, rfl, Nat.zero_le _, (rfl : w = w)⟩
  case round =>
    obtain ⟨i, rfl, rfl, hi, hw⟩ := hrel
    have hw' := unhide hw
    clear hw
    subst hw'
    have hi0 : (0 : Int) ≤ i := by omega
    by_cases hin : i < n
    · have hil : (i : Int) < n := by omega
      obtain ⟨t, ht⟩ : ∃ t, L[i]? = some t := ⟨_, List.getElem?_eq_getElem (by rw [unhide HN]; exact hin)⟩
      have hc := (unhide HL) i t ht
      obtain ⟨r, hTr⟩ := (unhide HT) t (List.mem_of_getElem? ht)
      have HC := hide (tcount_ok hTr)
      have hs := sumT_at (ct := ct) ht
      have hb1 := (unhide HS) i
      have hb2 := (unhide HS) (i + 1)
      have HE := hide hs
      have hb3 : sumT ct L i + (ct t).length ≤ 4000004 := by omega
      clear hTr ht hs hb2
      generalize sumT ct L i = s at *
      generalize (ct t).length = k at *
      go_wp2_with fail
      refine (unhide HC).mono ?_
      rintro ev w2 ⟨rfl, rfl⟩
      go_wp2_with fail
      go_roundw
      case rel => exact ⟨i + 1, by rw [unhide HE]; go_num, by go_num, by omega, (show Hid True from trivial)⟩
      case measure => simp [RowKit.intOf]; omega
    · obtain rfl : i = n := by omega
      have hnl : ¬ (i : Int) < i := by omega
      go_wp2
      go_ret
      exact ⟨rfl, rfl⟩
set_option maxRecDepth 100000 in
theorem count_nil {w : World} {p : Option Addr} {cp : Nat} : Calls Tryz.prog 146 #[.slice p 0 cp] w fun ev w' => ev = .returned (.int .i64 0) ∧ w' = w := by
  go_enter Tryz.func146, Tryz.ntmps146
  go_wp2
  refine wp_loop_rounds 1 ?_
  rw [rounds_succ]
  go_wp2
  go_ret
  exact ⟨rfl, rfl⟩
section
variable {w0 : World} {N0 : Nat} {U : Nat → Prop} {c z d g : Nat} {sz : Int} {m : Nat} {mn lw hi : Int} {k : Nat} {nb fm tm : Nat → Nat} {fr : Nat → List Nat} {Q : Nat} {ss ss' : List Sl} {nd nd' : Nat → Nd} {ws : List (Nat × Nat)} {pl L : List Nat} {ct : Nat → List Bl} {w w' : World}
/-- A new depot. -/
theorem DQ.fresh {ly : Ly} {bs : List Nat} (h : PS N0 w c z ly sz m bs ss mn lw hi k nb fm tm nd fr) (hb : Below w0.heap.size w0 w) (hN : N0 ≤ w.heap.size) (hly : ly.2 = .map #[] 0) {ws : List (Nat × Nat)} (hw : 1 ≤ ws.length) (hD : DN N0 w c ws w') : ∃ g, DQ w0 N0 (fun _ => False) c z w.heap.size g sz m mn lw hi k nb fm tm fr 0 ss nd ws [] (fun _ => []) w' := by
  have h' := h.b hD.b
  obtain ⟨v, e1, o1⟩ := hD.d1
  obtain ⟨g, cap, rfl, hg, hl⟩ := o1.form (by omega)
  have hm : Ml w' ly.1 0 (fun _ _ => none) := Ml.empty (by rw [h'.c.ym.lm, hly])
  refine ⟨g, btr hb hD.b, ⟨ly, bs, 0, _, fun t => t, h', ⟨hD.nd, fun t ht => (hD.tr t ht).1, fun t _ u _ hne => hne, fun _ _ => id, hm, h'.c.ym.lg, fun a b t => ⟨fun e => (by cases e), fun ⟨_, e⟩ => (by cases e)⟩, fun t _ => ⟨List.nodup_nil, by simp, fun o ho => by cases ho⟩⟩, Nat.le_refl _⟩, ⟨hD.d0, ⟨cap, e1, own_less o1 hN⟩, ⟨none, 0, hD.d2, World.ownsRow_nil _ _ _ _⟩, hD.tg, hN, hD.fz⟩, (fun t ht => by cases ht), (fun t _ o ho => by cases ho), (fun _ h => False.elim h), (fun _ h => False.elim h), Nat.zero_le _⟩
/-- An object that is taken of the cache beneath, while there is room: a fresh one. -/
theorem ct_fill {e : Nat → Addr} {ev : Ending} {pg t : Nat} (hT : CtR w0 N0 U c z d g sz m mn lw hi 1 nb fm tm fr Q ss nd ws pl ct 0 true e w ev w') (hfr : fr 0 = [0]) (hF : Fill pg m (nd 0) ss t) (hm : 1 ≤ m ∧ m ≤ 64) (hmm : 1 ≤ sz ∧ sz ≤ 64 ∧ (m : Int) = 64 / sz) (hb : ∀ s ∈ ss, s.bm < 2 ^ m) (hso : Sorted ss) (ht : t < pg * m) (how : Ow 1 nd ss) (hok : (nd 0).ok) :
    ∃ a ss' nd', ev = .returned (.tuple #[objV 0 a, .nilIface]) ∧ DQ w0 N0 U c z d g sz m mn lw hi 1 nb fm tm fr Q ss' nd' ws pl ct w' ∧ Fill pg m (nd' 0) ss' (t + 1) ∧ UK U w w' ∧ Tkn m sz ss' 0 a ∧ ¬ Tkn m sz ss 0 a ∧ ∀ p q, Tkn m sz ss p q → Tkn m sz ss' p q := by
  cases hT with
  | no a _ ha hd hu hr =>
    exfalso
    rcases hr with ⟨_, h⟩ | ⟨x', h1, h2, h3, h4, _⟩
    · omega
    · obtain rfl : x' = 0 := by omega
      rw [hfr] at h4
      have h5 : tkC 0 mn true (nd 0) ≠ 2 := by
        intro h
        simp [h] at h4
      have h6 := fit0_nil hF.ok (tkC_true h5)
      have h7 := totL_full m ss (bst_all h3 hF.nd)
      have h8 := hF.pg
      rw [h6] at h8
      simp only [pgs] at h8
      have h9 : ss.length = pg := by omega
      rw [h9, hF.tt] at h7
      omega
  | old x' j s _ h1 h2 h3 h4 hd hu =>
    obtain rfl : x' = 0 := by omega
    obtain ⟨hj, hnd, hpop⟩ := bst_some h3
    rw [getD_at h4] at hnd hpop
    have hsm := hb s (List.mem_of_getElem? h4)
    obtain ⟨f1, f2, f3⟩ := ff_spec hsm hm.2 hpop
    have e1 := totL_set m ss j s { s with bm := s.bm ||| 2 ^ ff s.bm } h4
    simp only [pop_setbit hsm hm.2 hpop] at e1
    refine ⟨_, _, _, by rw [hnd]; rfl, hd, ⟨hF.ok, by rw [List.length_set]; exact hF.pg, by have := hF.tt; omega, fun s' hs' => ?_⟩, hu, ?_, ?_, fun p q h => h.or h4 _⟩
    · rcases List.mem_or_eq_of_mem_set hs' with q | rfl
      · exact hF.nd s' q
      · exact hnd
    · exact ⟨j, ff s.bm, _, List.getElem?_set_self hj, f1, by simp [Nat.testBit_or], by simp [hnd], rfl⟩
    · rintro ⟨j', i', s', es, hi, hbt, hn, ha⟩
      have hm1 := mul_in hmm.1 hmm.2.2 hi
      have hm2 := mul_in hmm.1 hmm.2.2 f1
      simp only at hn ha
      have e2 : s.at_ = s'.at_ := by omega
      have e3 : j = j' := sorted_uniq hso h4 es (by omega) e2
      subst e3
      rw [h4] at es
      cases es
      have e4 : (ff s.bm : Int) * sz = i' * sz := by omega
      have e5 : (ff s.bm : Int) = i' := Int.eq_of_mul_eq_mul_right (by omega) e4
      have e6 : ff s.bm = i' := by omega
      rw [← e6, f2] at hbt
      cases hbt
  | new x' i q a _ h1 h2 h3 h4 h5 h6 h7 hd hu =>
    obtain rfl : i = 0 := by omega
    obtain rfl : x' = 0 := by omega
    have htk : tkC 0 mn true (nd 0) = 2 := by
      have := List.find?_some h4
      simpa using this
    refine ⟨_, _, _, rfl, hd, ⟨by rw [up_at]; exact tkN_ok (by omega) hok, ?_, ?_, fun s hs => ?_⟩, hu, ?_, ?_, fun p q' h => h.ins h7.1 _⟩
    · rw [up_at, ins_length]
      have := hF.pg
      cases hf : fit 0 (nd 0).F with
      | none => simp [tkC, hf] at htk
      | some y =>
        obtain ⟨hy, hy2⟩ := fit_some hf
        have e1 : (tkN 0 (nd 0)).F = takeF 0 y (nd 0).F := by simp [tkN, hf]
        have e2 := pgs_takeF (by omega) hok.2.2 hy hy2
        have e3 : pw 0 = 1 := rfl
        rw [e1]; push_cast; omega
    · rw [totL_ins, hF.tt]
      have e1 : pop 1 m = 1 := by
        have h0 := pop_setbit (x := 0) (m := m) (Nat.two_pow_pos _) hm.2 (by rw [pop_of_zero]; omega)
        rw [ff_zero, pop_of_zero] at h0
        exact h0
      simp only [e1]
    · rcases ins_mem.mp hs with rfl | q
      · rfl
      · exact hF.nd s q
    · exact ⟨q, 0, ⟨0, a, 1⟩, by rw [ins_get _ h7.1, if_neg (by omega), if_pos rfl], by omega, (show (1 : Nat).testBit 0 = true by decide), rfl, by simp⟩
    · rintro ⟨j', i', s', es, hi, hbt, hn, ha⟩
      have hm1 := mul_in hmm.1 hmm.2.2 hi
      simp only at hn ha
      have hs' := List.mem_of_getElem? es
      have := how.fresh hok htk s' hs' (hF.nd s' hs')
      omega
end
end Mg
end Go.Proofs.YtfefehkapffljaaGreatDoor
