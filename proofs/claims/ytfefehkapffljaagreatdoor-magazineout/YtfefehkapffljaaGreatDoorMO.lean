/- giveBack, by contract: its walk · A list of acts on depots that came in, as the walk takes it · Empty and Drain, by contract, as a law sees them that counts what is out · MagazineOut: what its walk needs of rows. -/
import Derived.Test.YtfefehkapffljaaGreatDoorMN
import Derived.Test.YtfefehkapffljaaGreatDoorKN
import Derived.Test.YtfefehkapffljaaGreatDoorMJ
namespace Go.Proofs.YtfefehkapffljaaGreatDoor
open Go.RowKit Go.Maps
namespace Mg
open Fr Bd Zn Dz Sb
section
variable {w0 : World} {N0 : Nat} {U V : Nat → Prop} {c z d g : Nat} {sz : Int} {m : Nat} {mn lw hi : Int} {k : Nat} {nb fm tm : Nat → Nat} {fr : Nat → List Nat} {Q : Nat} {ss ssA : List Sl} {nd : Nat → Nd} {ws : List (Nat × Nat)} {pl L : List Nat} {ct ctA : Nat → List Bl} {w w' W : World}
/-- Some trays are emptied. -/
structure GO (w0 : World) (N0 : Nat) (U : Nat → Prop) (c z d g : Nat) (sz : Int) (m : Nat) (mn lw hi : Int) (k : Nat) (nb fm tm : Nat → Nat) (fr : Nat → List Nat) (Q : Nat) (ss : List Sl) (nd : Nat → Nd) (ws : List (Nat × Nat)) (pl L : List Nat) (ct : Nat → List Bl) (Lx : List Nat) (i : Nat) (W w : World) : Prop where
  ex : ∃ ss', DX w0 N0 U c z d g sz m mn lw hi k nb fm tm fr Q ss' nd ws pl L (offT ct (Lx.take i)) w ∧ totL m ss' + sumT ct Lx i = totL m ss
  sm : Sb.Same [164, 165, 168] W w
  uk : UK U W w
theorem same_trans {ts : List TypeId} {w1 w2 : World} (h : Sb.Same ts w w1) (h' : Sb.Same ts w1 w2) : Sb.Same ts w w2 := fun b t hm ht => (h' b t hm (tag_same h hm ht)).trans (h b t hm ht)
theorem same_box {ts : List TypeId} {w1 : World} (h : Sb.Same ts w w1) {p t2 : Nat} (hp : Tag w1 p t2) (h2 : t2 ∉ ts) (o : Nat) (v : Value) : Sb.Same ts w (w1.setCell ⟨p, o, none⟩ v) := fun b t hm ht => by
  have h1 : b ≠ p := (tag_same h hm ht).ne hp (fun e => h2 (e ▸ hm))
  exact (Below.heap_setCell _ _ _ _ (by simp only; first | exact h1 | exact h1.symm)).trans (h b t hm ht)
theorem uk_box {w1 : World} (h : UK U w w1) {p : Nat} (hp : ∀ j, U j → j ≠ p) (o : Nat) (v : Value) : UK U w (w1.setCell ⟨p, o, none⟩ v) := fun j hj => by
  have h1 := hp j hj
  exact (Below.heap_setCell _ _ _ _ (by simp only; first | exact h1 | exact h1.symm)).trans (h j hj)
/-- The next object is lifted into its box. -/
theorem GB.next {p' t : Nat} {ss2 ss3 : List Sl} {xs xs' : List Bl} {x y : Int} {b' : Bool} {w5 : World} (hc : totL m ss3 + 1 = totL m ss2) (hl : totL m ss2 + (ctA t).length = totL m ssA + xs.length + 1) (hD : DX w0 N0 (fun j => U j ∨ j = p') c z d g sz m mn lw hi k nb fm tm fr Q ss3 nd ws pl L (upN (upN ctA t xs) t xs') w5) {a1 a2 : Int} (hR : Rx w5 p' (.int .i64 a1) (.int .i64 a2)) (hT : b' = true → upN ctA t xs t = xs' ++ [(x, y)] ∧ Tkn m sz ss3 x y ∧ ∀ u ∈ L, (x, y) ∉ upN (upN ctA t xs) t xs' u) (hF : b' = false → xs' = [] ∧ upN ctA t xs t = []) (hs : Sb.Same [164, 165, 168] W w5) (hu : UK U W w5) (hp : ∀ j, U j → j ≠ p') (ht : t ∈ L) :
    GB w0 N0 U c z d g sz m mn lw hi k nb fm tm fr Q ssA nd ws pl L ctA t p' b' W ((w5.setCell ⟨p', 0, none⟩ (.int .i64 x)).setCell ⟨p', 1, none⟩ (.int .i64 y)) ∧ lenAt ((w5.setCell ⟨p', 0, none⟩ (.int .i64 x)).setCell ⟨p', 1, none⟩ (.int .i64 y)) t + (if b' then 1 else 0) ≤ xs.length := by
  rw [upN_upN] at hD hT
  rw [upN_at] at hT hF
  have h5 := (hD.setU (b := p') (Or.inr rfl) 0 (.int .i64 x)).setU (b := p') (Or.inr rfl) 1 (.int .i64 y)
  have hR2 := rx_two hR x y
  refine ⟨⟨⟨ss3, xs', x, y, h5, hR2, fun hb => ?_, fun hb => ?_⟩, same_box (same_box hs hR.tg (by decide) _ _) (hR.tg.set _ _) (by decide) _ _, uk_box (uk_box hu hp _ _) hp _ _⟩, ?_⟩
  · obtain ⟨x1, x2, x3⟩ := hT hb
    refine ⟨x2, x3, ?_⟩
    rw [x1, List.length_append, List.length_singleton] at hl
    omega
  · obtain ⟨x1, x2⟩ := hF hb
    refine ⟨x1, ?_⟩
    rw [x2, List.length_nil] at hl
    omega
  · obtain ⟨r, hr, _⟩ := h5.lift0 ht
    rw [hr.lenAt, upN_at]
    cases b' with
    | true =>
      obtain ⟨x1, _⟩ := hT rfl
      rw [x1, List.length_append, List.length_singleton]
      simp
    | false =>
      obtain ⟨x1, _⟩ := hF rfl
      rw [x1]
      simp
set_option maxRecDepth 100000 in
set_option maxHeartbeats 16000000 in
theorem DX.gback_ok (h : DX w0 N0 U c z d g sz m mn lw hi k nb fm tm fr Q ss nd ws pl L ct w) (hN : w0.heap.size ≤ N0) (e : Nat → Addr) (he : ErrsM w0 e) {Lx : List Nat} (hnd : Lx.Nodup) (hsub : ∀ t ∈ Lx, t ∈ L) {gb cp : Nat} (hcl : ∀ i t, Lx[i]? = some t → w.cell? ⟨gb, i, none⟩ = some (.pointer (some ⟨t, 0, none⟩))) (hg : Tag w gb 165) (hl : Lx.length ≤ 1000000) :
    Calls Tryz.prog 102 #[.pointer (some ⟨d, 0, none⟩), .slice (some ⟨gb, 0, none⟩) Lx.length cp] w fun ev w' => ev = .returned (.int .i64 (sumT ct Lx Lx.length)) ∧ GO w0 N0 U c z d g sz m mn lw hi k nb fm tm fr Q ss nd ws pl L ct Lx Lx.length w w' := by
  have HCN := hide (count_ok (N0 := N0) (c := c) (ct := ct) (L := Lx) (cp := cp) hcl (fun t ht => ⟨_, (h.lift0 (hsub t ht)).choose_spec.1⟩) (fun t ht => (h.lift0 (hsub t ht)).choose_spec.2) hl)
  have HG0 : Hid (GO w0 N0 U c z d g sz m mn lw hi k nb fm tm fr Q ss nd ws pl L ct Lx 0 w w) := ⟨⟨ss, by rw [List.take_zero, offT_nil]; exact h, by simp [sumT]⟩, fun _ _ _ _ => rfl, fun _ _ => rfl⟩
  have HCL := hide hcl
  have HTG := hide hg
  have HND := hide hnd
  have HSB := hide hsub
  have HE := hide he
  clear h hnd hsub hcl hg he
  generalize hn : Lx.length = n at *
  have HLN := hide hn
  clear hn
  generalize sumT ct Lx n = tot at *
  go_enter Tryz.func102, Tryz.ntmps102
  go_wp2_with fail
  refine (unhide HCN).mono ?_
  rintro ev w1 ⟨rfl, rfl⟩
  clear HCN
  go_wp2_with fail
  go_loopw [14] (fun s14 wr => ∃ i : Nat, s14 = .int .i64 i ∧ i ≤ n ∧ Hid (GO w0 N0 U c z d g sz m mn lw hi k nb fm tm fr Q ss nd ws pl L ct Lx i w1 wr)) (fun s _ => n - (RowKit.intOf s).toNat)
  case atStart => exact ⟨0, rfl, Nat.zero_le _, HG0⟩
  case round =>
    clear HG0
    obtain ⟨i, rfl, hii, HG⟩ := hrel
    have hi0 : (0 : Int) ≤ i := by omega
    by_cases hin : i < n
    · have hil : (i : Int) < n := by omega
      obtain ⟨t, ht⟩ : ∃ t, Lx[i]? = some t := ⟨_, List.getElem?_eq_getElem (by rw [unhide HLN]; exact hin)⟩
      have hgs : Tag wr gb 165 := tag_same (unhide HG).sm (by simp) (unhide HTG)
      have hc1 := (cell_same (unhide HG).sm (by simp) (unhide HTG) i).trans ((unhide HCL) i t ht)
      have htL := (unhide HSB) t (List.mem_of_getElem? ht)
      obtain ⟨ss1, D1, t1⟩ := (unhide HG).ex
      have hct : offT ct (Lx.take i) t = ct t := offT_out (take_off (unhide HND) ht)
      have HLF := hide (D1.liftA hN htL)
      have HTL := hide htL
      have HT := hide ht
      have HCT := hide hct
      have HT1 := hide t1
      have HSM := hide (unhide HG).sm
      have HUK := hide (unhide HG).uk
      clear hgs ht D1 t1 htL hct HG
      go_wp2_with fail
      refine (unhide HLF).mono ?_
      rintro ev w2 ⟨oN, oA, b, xs, rfl, D2, uk2, sm2, hT2, hF2⟩
      have F := ballo (Below.refl w2.heap.size w2) (.cells #[.int .i64 oN, .int .i64 oA] 42)
      have R3 := rx_val w2 oN oA
      have HGB : Hid (GB w0 N0 U c z d g sz m mn lw hi k nb fm tm fr Q ss1 nd ws pl L (offT ct (Lx.take i)) t w2.heap.size b w1 (w2.alloc (.cells #[.int .i64 oN, .int .i64 oA] 42))) :=
        ⟨⟨ss1, xs, oN, oA, D2.more F (Nat.le_refl _) R3.tg, R3, fun hb => by
          obtain ⟨x1, x2, x3⟩ := hT2 hb
          exact ⟨x2, x3, by rw [x1, List.length_append, List.length_singleton]; omega⟩, fun hb => by
          obtain ⟨x1, x2⟩ := hF2 hb
          exact ⟨x1, by rw [x2]; rfl⟩⟩, same_trans (unhide HSM) (same_trans sm2 (same_below F)), ((unhide HUK).trans uk2).trans (fun j hj => F.block j (D2.uk j hj).lt)⟩
      clear HLF D2 uk2 sm2 hT2 hF2 F R3 HSM HUK hc1
      go_wp2_with fail
      generalize w2.alloc (.cells #[.int .i64 oN, .int .i64 oA] 42) = W3 at *
      generalize w2.heap.size = p3 at *
      go_loopw [8, 9] (fun s8 s9 wr => ∃ (p : Nat) (b : Bool), s8 = .pointer (some ⟨p, 0, none⟩) ∧ s9 = .bool b ∧ Hid (GB w0 N0 U c z d g sz m mn lw hi k nb fm tm fr Q ss1 nd ws pl L (offT ct (Lx.take i)) t p b w1 wr)) (fun _ s9 wr => lenAt wr t + (match s9 with | .bool true => 1 | _ => 0))
      case atStart => exact ⟨p3, b, rfl, rfl, HGB⟩
      case round =>
        clear HGB
        obtain ⟨p, b, rfl, rfl, HB⟩ := hrel
        obtain ⟨ss2, xs, oN, oA, D4, R4, hT4, hF4⟩ := (unhide HB).ex
        have HSM := hide (unhide HB).sm
        have HUK := hide (unhide HB).uk
        cases b with
        | true =>
          obtain ⟨hT4a, hT4b, hT4c⟩ := hT4 rfl
          have hlen : lenAt wr t = xs.length := by
            obtain ⟨r, hr, _⟩ := D4.lift0 (unhide HTL)
            rw [hr.lenAt, upN_at]
          have HCG := hide ((D4.b (drw wr)).cgive hN e (unhide HE) hT4a hT4b)
          have HTOT := hide hT4c
          have dt := D4.db.tg.b (drw wr)
          have dc := ((drw wr).cell (p := ⟨d, 0, none⟩) D4.db.tg.lt).trans D4.db.d0
          have R5 := R4.b (drw wr)
          unfold ptr objV at *
          have HK : Hid (∀ w3, Sb.Same [164, 165, 168] wr.drew w3 → UK (fun j => U j ∨ j = p) wr.drew w3 → w3.cell? ⟨d, 0, none⟩ = some (.pointer (some ⟨c, 0, none⟩)) ∧ w3.cell? ⟨p, 0, none⟩ = some (.int .i64 oN) ∧ w3.cell? ⟨p, 1, none⟩ = some (.int .i64 oA)) := fun w3 hs hu => by
            have R6 := R5.blk (hu p (Or.inr rfl))
            exact ⟨(cell_same hs (by simp) dt 0).trans dc, R6.c0, R6.c1⟩
          have HS2 := hide (same_trans (unhide HSM) (same_below (drw wr)))
          have HU2 := hide ((unhide HUK).trans (fun j hj => (drw wr).block j (D4.uk j (Or.inl hj)).lt))
          have dc0 := D4.db.d0
          unfold ptr at dc0
          obtain ⟨x0, x1, _, _⟩ := R4
          have HLEN := hide hlen
          clear hT4 hF4 D4 hT4a hT4b hT4c dt dc R5 HSM HUK HB hlen
          go_wp2_with fail
          go_region_held3 (fun w' => w'.cell? ⟨d, 0, none⟩ = some (.pointer (some ⟨c, 0, none⟩)) ∧ w'.cell? ⟨p, 0, none⟩ = some (.int .i64 oN) ∧ w'.cell? ⟨p, 1, none⟩ = some (.int .i64 oA)) (first | (go_keep; done) | exact (unhide HK) _ (by assumption) (by assumption)) ((go_at_call 15; refine (unhide HCG).mono ?_; rintro ev w3 ⟨rfl, j1, i1, s1, hg1, hs1, D6, uk6, sm6, tot6⟩))
          generalize ss2.set j1 { s1 with bm := s1.bm &&& (18446744073709551615 - 2 ^ i1) } = ss3 at *
          have F := ballo (Below.refl w3.heap.size w3) (.cells #[.int .i64 oN, .int .i64 oA] 42)
          have R7 := rx_val w3 oN oA
          have D7 := (D6.more F (Nat.le_refl _) R7.tg).less (V := fun j => U j ∨ j = w3.heap.size) (fun j hj => hj.elim (fun h => Or.inl (Or.inl h)) Or.inr)
          have HLF := hide (D7.liftA hN (unhide HTL))
          have HPU : Hid (∀ j, U j → j ≠ w3.heap.size) := fun j hj => by have := (D6.uk j (Or.inl hj)).lt; omega
          have HS3 := hide (same_trans (unhide HS2) (same_trans sm6 (same_below F)))
          have HU3 := hide (((unhide HU2).trans (fun j hj => uk6 j (Or.inl hj))).trans (fun j hj => F.block j (D6.uk j (Or.inl hj)).lt))
          have HR7 := hide R7
          obtain ⟨y0, y1⟩ := (unhide HK) w3 sm6 uk6
          have HT6 := hide tot6
          clear HCG HK HS2 HU2 x0 x1 dc0 hg1 hs1 D6 uk6 sm6 F R7 D7 tot6
          go_wp2_with fail
          refine (unhide HLF).mono ?_
          rintro ev w5 ⟨x', y', b', xs', rfl, D8, uk8, sm8, hT8, hF8⟩
          have R8 := (unhide HR7).blk (uk8 _ (Or.inr rfl))
          have HN8 := hide (GB.next (ssA := ss1) (U := U) (unhide HT6) (unhide HTOT) D8 R8 hT8 hF8 (same_trans (unhide HS3) sm8) ((unhide HU3).trans (fun j hj => uk8 j (Or.inl hj))) (unhide HPU) (unhide HTL))
          obtain ⟨r0, r1, rfz, rt⟩ := R8
          have f0 := rfz 0
          have f1 := rfz 1
          generalize w3.heap.size = p' at *
          clear HLF D8 uk8 sm8 hT8 hF8 HR7 HS3 HU3 HPU rfz rt HT6 HTOT y0 y1
          go_wp2_with fail
          go_roundw
          case rel => exact ⟨p', b', rfl, rfl, (unhide HN8).1⟩
          case measure =>
            have h8 := (unhide HN8).2
            have h9 := unhide HLEN
            cases b' <;> simp at h8 ⊢ <;> omega
        | false =>
          obtain ⟨rfl, hF5⟩ := hF4 rfl
          have D5 := D4.less (V := U) (fun j hj => Or.inl hj)
          rw [offT_next (unhide HT)] at D5
          have HG' : Hid (GO w0 N0 U c z d g sz m mn lw hi k nb fm tm fr Q ss nd ws pl L ct Lx (i + 1) w1 wr) := ⟨⟨ss2, D5, by rw [sumT_at (unhide HT)]; have := unhide HT1; rw [unhide HCT] at hF5; omega⟩, unhide HSM, unhide HUK⟩
          clear D4 R4 hT4 hF4 hF5 D5 HB
          go_wp2_with fail
          go_roundw
          case rel => exact ⟨i + 1, by go_num, by omega, HG'⟩
          case measure => simp [RowKit.intOf]; omega
    · obtain rfl : i = n := by omega
      have hnl : ¬ (i : Int) < i := by omega
      go_wp2
      go_ret
      exact ⟨rfl, unhide HG⟩
end
end Mg
end Go.Proofs.YtfefehkapffljaaGreatDoor
namespace Go.Proofs.YtfefehkapffljaaGreatDoor
open Go.RowKit Go.ChangeShapes
namespace Mg
open Sb Fr Bd Zn Dz
theorem cells87 : Tryz.prog.cellsOf 87 = 7 := by kernel_rfl
section
variable {H : Type} {enc : TypeId × Value → H} {w : World} {base : Nat} {spare : Nat → Bool} {held : Bool}
/-- The acts of an argument's slice. -/
structure DA where
  s : ByteArray
  k : Int
  x : Int
  n : Int
  u : Bool
  ox : Int
  oa : Int
instance : Inhabited DA := ⟨⟨ByteArray.empty, 0, 0, 0, false, 0, 0⟩⟩
def DActs (w : World) (p : Option Addr) (n : Nat) (A : Nat → DA) : Prop := ∀ i, i < n → ∃ blk off, p = some ⟨blk, off, none⟩ ∧ blk < w.heap.size ∧ w.cell? ⟨blk, off + i * 7, none⟩ = some (.string (A i).s) ∧ w.cell? ⟨blk, off + i * 7 + 1, none⟩ = some (.int .i64 (A i).k) ∧ w.cell? ⟨blk, off + i * 7 + 2, none⟩ = some (.int .i64 (A i).x) ∧ w.cell? ⟨blk, off + i * 7 + 3, none⟩ = some (.int .i64 (A i).n) ∧ w.cell? ⟨blk, off + i * 7 + 4, none⟩ = some (.bool (A i).u) ∧ w.cell? ⟨blk, off + i * 7 + 5, none⟩ = some (.int .i64 (A i).ox) ∧ w.cell? ⟨blk, off + i * 7 + 6, none⟩ = some (.int .i64 (A i).oa)
set_option maxRecDepth 10000 in
theorem open_dact {n : Nat} {a : Addr} {cs : List Value} {x : DataW H × List MemPlace} (h1 : w.cells? base a 7 = some cs) (h2 : DataW.trod enc Tryz.prog w base spare held n 87 cs = some x) :
    ∃ q : DA, w.cell? (a.add 0) = some (.string q.s) ∧ w.cell? (a.add 1) = some (.int .i64 q.k) ∧ w.cell? (a.add 2) = some (.int .i64 q.x) ∧ w.cell? (a.add 3) = some (.int .i64 q.n) ∧ w.cell? (a.add 4) = some (.bool q.u) ∧ w.cell? (a.add 5) = some (.int .i64 q.ox) ∧ w.cell? (a.add 6) = some (.int .i64 q.oa) ∧ (Lit.int .i64 q.k).wf = true ∧ (Lit.int .i64 q.n).wf = true := by
  obtain ⟨_, hlen, hcell⟩ := World.cells?_some h1
  obtain ⟨xs, k, hk, hxy, _, hxl, hf⟩ := DataW.trod_struct Tryz.underlying87 h2
  match xs, hxl, cs, hlen with
  | [y0, y1, y2, y3, y4, y5], _, [v0, v1, v2, v3, v4, v5, v6], _ =>
    have g0 := hf 0 _ rfl
    have g1 := hf 1 _ rfl
    have g2 := hf 2 _ rfl
    have g3 := hf 3 _ rfl
    have g4 := hf 4 _ rfl
    have g5 := hf 5 _ rfl
    simp [cellsOf9, cells3, cells4, cells42] at g0 g1 g2 g3 g4 g5
    have e0 := hcell 0 (by omega)
    have e1 := hcell 1 (by omega)
    have e2 := hcell 2 (by omega)
    have e3 := hcell 3 (by omega)
    have e4 := hcell 4 (by omega)
    have e5 := hcell 5 (by omega)
    have e6 := hcell 6 (by omega)
    obtain ⟨s, hs, _⟩ := DataW.trod_string Tryz.underlying9 g0
    obtain ⟨kk, hkk, _, wk⟩ := DataW.trod_int Tryz.underlying3 g1
    obtain ⟨z, hz, _, wz⟩ := DataW.trod_int Tryz.underlying3 g2
    obtain ⟨o, ho, _, wo⟩ := DataW.trod_int Tryz.underlying3 g3
    obtain ⟨u, hu, _⟩ := DataW.trod_bool Tryz.underlying4 g4
    obtain ⟨p0, p1, m, _, _, hp0, hp1⟩ := trod_struct2 Tryz.underlying42 g5
    simp [cells3] at hp0 hp1
    obtain ⟨px, hpx, _⟩ := DataW.trod_int Tryz.underlying3 hp0
    obtain ⟨pa, hpa, _⟩ := DataW.trod_int Tryz.underlying3 hp1
    simp at hs hkk hz ho hu hpx hpa
    subst hs hkk hz ho hu hpx hpa
    exact ⟨⟨s, kk, z, o, u, px, pa⟩, by simpa using e0, by simpa using e1, by simpa using e2, by simpa using e3, by simpa using e4, by simpa using e5, by simpa using e6, wk, wo⟩
theorem open_dacts {fuel : Nat} {cs : List Value} {x : DataW H × List MemPlace} (h : DataW.trod enc Tryz.prog w base spare held fuel 82 cs = some x) :
    ∃ (p : Option Addr) (len cap : Nat) (A : Nat → DA), cs = [.slice p len cap] ∧ DActs w p len A ∧ ∀ i, i < len → (Lit.int .i64 (A i).k).wf = true ∧ (Lit.int .i64 (A i).n).wf = true := by
  rcases Go.Deep.open_slice Tryz.underlying82 h with h0 | ⟨a, len, cap, m, n, D, Pl, rfl, hb, hl, hm, hmm, rfl, hx⟩
  · exact ⟨none, 0, 0, fun _ => default, h0.1, fun i hi => by omega, fun i hi => by omega⟩
  have hlm : len ≤ m := by rw [hmm]; split <;> omega
  obtain ⟨q, hq⟩ := Go.Deep.choose_lt (α := DA) (n := len) (p := fun i q => w.cell? ((a.add (i * 7)).add 0) = some (.string q.s) ∧ w.cell? ((a.add (i * 7)).add 1) = some (.int .i64 q.k) ∧ w.cell? ((a.add (i * 7)).add 2) = some (.int .i64 q.x) ∧ w.cell? ((a.add (i * 7)).add 3) = some (.int .i64 q.n) ∧ w.cell? ((a.add (i * 7)).add 4) = some (.bool q.u) ∧ w.cell? ((a.add (i * 7)).add 5) = some (.int .i64 q.ox) ∧ w.cell? ((a.add (i * 7)).add 6) = some (.int .i64 q.oa) ∧ (Lit.int .i64 q.k).wf = true ∧ (Lit.int .i64 q.n).wf = true) (fun i hi => by
    obtain ⟨cs', h1, h2⟩ := hx i (by omega)
    rw [cells87] at h1
    exact open_dact h1 h2)
  refine ⟨some a, len, cap, q, rfl, fun i hi => ?_, fun i hi => (hq i hi).2.2.2.2.2.2.2⟩
  have h0 := (hq 0 (by omega)).1
  obtain ⟨blk, off, rfl⟩ := plain_addr (by simpa [Addr.add] using h0)
  obtain ⟨c0, c1, c2, c3, c4, c5, c6, _⟩ := hq i hi
  simp only [add_at, Nat.add_zero] at c0 c1 c2 c3 c4 c5 c6
  exact ⟨blk, off, rfl, World.block_lt_of_cell? w _ c0, c0, c1, c2, c3, c4, c5, c6⟩
end
end Mg
end Go.Proofs.YtfefehkapffljaaGreatDoor
namespace Go.Proofs.YtfefehkapffljaaGreatDoor
open Go.RowKit Go.Maps
namespace Mg
open Fr Bd Zn Dz Sb
section
variable {w0 : World} {N0 : Nat} {U V : Nat → Prop} {c z d g : Nat} {sz : Int} {m : Nat} {mn lw hi : Int} {k : Nat} {nb fm tm : Nat → Nat} {fr : Nat → List Nat} {Q : Nat} {ss ssA : List Sl} {nd : Nat → Nd} {ws : List (Nat × Nat)} {pl L : List Nat} {ct ctA : Nat → List Bl} {w w' W : World} {n : Nat} {S lo : List Bl}
/-- A depot without a pile, the magazines of its first workers empty: what the cache misses is out or in the other ones' magazines. -/
structure ME (w0 : World) (N0 : Nat) (U : Nat → Prop) (c z d g : Nat) (sz : Int) (m : Nat) (mn lw hi : Int) (nb fm tm : Nat → Nat) (fr : Nat → List Nat) (n : Nat) (Q : Nat) (dr N : Nat) (w : World) : Prop where
  ex : ∃ ss nd ws ct, DQ w0 N0 U c z d g sz m mn lw hi 1 nb fm tm fr Q ss nd ws [] ct w ∧ ws.length = n ∧ totL m ss = N + sumL ct (trs ws []) ∧ ∀ j a b, j < dr → ws[j]? = some (a, b) → ct a = [] ∧ ct b = []
theorem sumL_congr {ct ct' : Nat → List Bl} {L : List Nat} (h : ∀ t ∈ L, ct t = ct' t) : sumL ct L = sumL ct' L := by
  unfold sumL
  congr 1
  exact List.map_congr_left fun u hu => by rw [h u hu]
set_option maxRecDepth 100000 in
theorem gback_nil (w : World) (d cp : Nat) (p : Option Addr) : Calls Tryz.prog 102 #[.pointer (some ⟨d, 0, none⟩), .slice p 0 cp] w fun ev w' => ev = .returned (.int .i64 0) ∧ w' = w := by
  go_enter Tryz.func102, Tryz.ntmps102
  go_wp2_with fail
  refine count_nil.mono ?_
  rintro ev w1 ⟨rfl, rfl⟩
  go_wp2_with fail
  refine wp_loop_rounds 1 ?_
  rw [rounds_succ]
  go_wp2
  go_ret
  exact ⟨rfl, rfl⟩
theorem own_tg {b e size n g o d m : Nat} {xs : List Value} (h : w.ownsRow b e size (.slice (some ⟨g, o, none⟩) m d) n xs) : Tag w g e := by
  rcases h.2 with ⟨e2, _⟩ | ⟨g', cap, cur, e2, hg, hh, _⟩
  · cases e2
  · simp only [Value.slice.injEq, Option.some.injEq, Addr.mk.injEq] at e2
    obtain ⟨⟨rfl, _⟩, _⟩ := e2
    exact ⟨cur, _, hh⟩
/-- The pile's objects go back. -/
theorem pile_back (h : DQ w0 N0 U c z d g sz m mn lw hi k nb fm tm fr Q ss nd ws pl ct w) (hN : w0.heap.size ≤ N0) (e : Nat → Addr) (he : ErrsM w0 e) (hQ : Q ≤ 900000) {p : Option Addr} {cp : Nat} (o2 : w.ownsRow N0 165 1 (.slice p pl.length cp) pl.length (ptrl pl)) :
    Calls Tryz.prog 102 #[.pointer (some ⟨d, 0, none⟩), .slice p pl.length cp] w fun ev w' => (∃ v : Int, ev = .returned (.int .i64 v)) ∧ GO w0 N0 U c z d g sz m mn lw hi k nb fm tm fr Q ss nd ws pl (trs ws pl) ct pl pl.length w w' := by
  by_cases hp : pl = []
  · subst hp
    refine (gback_nil w d cp p).mono ?_
    rintro ev w' ⟨rfl, rfl⟩
    exact ⟨⟨0, rfl⟩, ⟨ss, by rw [List.take_length, offT_nil]; exact h.x, by simp [sumT]⟩, fun _ _ _ _ => rfl, fun _ _ => rfl⟩
  · obtain ⟨g', cap, e1, _⟩ := o2.form (by have := List.length_pos_iff.2 hp; omega)
    simp only [Value.slice.injEq] at e1
    obtain ⟨rfl, _, rfl⟩ := e1
    have hnp : pl.Nodup := (List.nodup_append.1 h.nodup).2.1
    refine (h.x.gback_ok hN e he hnp (fun t ht => by unfold trs; exact List.mem_append_right _ ht) (fun i t hi => ?_) (own_tg o2) (by have := h.pq; omega)).mono ?_
    · have hil := (List.getElem?_eq_some_iff.1 hi).1
      exact (o2.cellAt i (by omega)).trans (by simp [ptrl, hi, ptr])
    · rintro ev w' ⟨rfl, hG⟩
      exact ⟨⟨_, rfl⟩, hG⟩
theorem emptied (h1 : DQ w0 N0 U c z d g sz m mn lw hi 1 nb fm tm fr Q ss nd ws pl ct w) (hN : w0.heap.size ≤ N0) (h2 : ws.length = n) {N : Nat} (h4 : totL m ss = N + sumL ct (trs ws pl)) (G : GO w0 N0 U c z d g sz m mn lw hi 1 nb fm tm fr Q ss nd ws pl (trs ws pl) ct pl pl.length w w') :
    ME w0 N0 U c z d g sz m mn lw hi nb fm tm fr n Q 0 N (w'.setCell ⟨d, 2, none⟩ (.slice none 0 0)) ∧ UK U w (w'.setCell ⟨d, 2, none⟩ (.slice none 0 0)) := by
  obtain ⟨⟨ss', D, ht⟩, sm, uk⟩ := G
  rw [List.take_length] at D
  obtain ⟨dB, hc⟩ := D.db.piled (Chg.refl _ _ _) (pl' := []) (p := none) (cp := 0) (World.ownsRow_nil _ _ _ _)
  obtain ⟨D2, uk2⟩ := D.own hN hc dB
  have e0 : trs ws pl = trs ws [] ++ pl := by unfold trs; simp
  have hn := h1.nodup
  rw [e0] at hn
  obtain ⟨n1, n2, n3⟩ := List.nodup_append.1 hn
  have hq := D2.q n1 (fun t ht => by rw [e0]; exact List.mem_append_left _ ht) (fun t ht hno => by
    rw [e0] at ht
    rcases List.mem_append.1 ht with h | h
    · exact absurd h hno
    · exact offT_in h) (fun t ht => by cases ht) (Nat.zero_le _)
  refine ⟨⟨ss', nd, ws, _, hq, h2, ?_, fun j a b hj => absurd hj (Nat.not_lt_zero _)⟩, uk.trans uk2⟩
  have e1 : sumL (offT ct pl) (trs ws []) = sumL ct (trs ws []) := sumL_congr fun t ht => offT_out (fun hp => n3 t ht t hp rfl)
  rw [e0, sumL_app] at h4
  rw [sumT_all] at ht
  omega
set_option maxRecDepth 100000 in
set_option maxHeartbeats 4000000 in
theorem MO.empty (h : MO w0 N0 U c z d g sz m mn lw hi nb fm tm fr n Q S lo w) (hN : w0.heap.size ≤ N0) (hQ : Q ≤ 900000) (e : Nat → Addr) (he : ErrsM w0 e) :
    Calls Tryz.prog 37 #[.pointer (some ⟨d, 0, none⟩)] w fun ev w' => (∃ v : Int, ev = .returned (.int .i64 v)) ∧ ME w0 N0 U c z d g sz m mn lw hi nb fm tm fr n Q 0 lo.length w' ∧ UK U w w' := by
  obtain ⟨ss, nd, ws, pl, ct, h1, h2, h3, h4, _⟩ := h.ex
  obtain ⟨p, cp, e2, o2, dl, df⟩ := h1.pile
  have HGB := hide (pile_back h1 hN e he hQ o2)
  have HFIN := hide (fun w' G => emptied (n := n) (N := lo.length) (w' := w') h1 hN h2 h4 G)
  have HD := hide (fun w' (G : GO w0 N0 U c z d g sz m mn lw hi 1 nb fm tm fr Q ss nd ws pl (trs ws pl) ct pl pl.length w w') => (show w'.cell? ⟨d, 2, none⟩ = some (.slice p pl.length cp) ∧ w'.frozen? ⟨d, 2, none⟩ = false from ⟨(cell_same G.sm (by simp) h1.db.tg 2).trans e2, (World.frozen?_of_block (w := w) (a := ⟨d, 2, none⟩) (G.sm d 164 (by simp) h1.db.tg)).trans df⟩))
  clear h h1 h3 h4 o2 df
  generalize pl.length = q at *
  go_enter Tryz.func37, Tryz.ntmps37
  go_wp2_with fail
  refine (unhide HGB).mono ?_
  rintro ev w1 ⟨⟨v, rfl⟩, G⟩
  obtain ⟨x1, x2⟩ := (unhide HD) w1 G
  have F := hide ((unhide HFIN) w1 G)
  clear HGB HFIN HD G e2
  go_wp2
  go_ret
  exact ⟨⟨v, rfl⟩, (unhide F).1, (unhide F).2⟩
/-- The magazines of the next worker are emptied. -/
theorem drained (h1 : DQ w0 N0 U c z d g sz m mn lw hi 1 nb fm tm fr Q ss nd ws [] ct w) (h2 : ws.length = n) {N j a b : Nat} (h4 : totL m ss = N + sumL ct (trs ws [])) (h5 : ∀ j' a b, j' < j → ws[j']? = some (a, b) → ct a = [] ∧ ct b = []) (hx : ws[j]? = some (a, b)) (G : GO w0 N0 U c z d g sz m mn lw hi 1 nb fm tm fr Q ss nd ws [] (trs ws []) ct [a, b] 2 W w') :
    ME w0 N0 U c z d g sz m mn lw hi nb fm tm fr n Q (j + 1) N w' := by
  obtain ⟨⟨ss', D, ht⟩, sm, uk⟩ := G
  have e0 : ([a, b] : List Nat).take 2 = [a, b] := rfl
  rw [e0] at D
  have hn := h1.nodup
  have hp := trs_perm [] hx
  have hn2 := hp.nodup_iff.1 hn
  have hq := D.q hn (fun t ht => ht) (fun t ht hno => absurd ht hno) (fun t ht => by cases ht) (Nat.zero_le _)
  refine ⟨⟨ss', nd, ws, _, hq, h2, ?_, fun j' a' b' hj hx' => ?_⟩⟩
  · have e1 : sumL (offT ct [a, b]) (trs (ws.eraseIdx j) []) = sumL ct (trs (ws.eraseIdx j) []) := sumL_congr fun t ht' => offT_out (fun hp => by
      simp only [List.nodup_cons, List.mem_cons, not_or] at hn2
      simp only [List.mem_cons, List.not_mem_nil, or_false] at hp
      rcases hp with rfl | rfl
      · exact hn2.1.2 ht'
      · exact hn2.2.1 ht')
    have e2 : sumL (offT ct [a, b]) (trs ws []) = sumL ct (trs (ws.eraseIdx j) []) := by
      rw [sumL_perm hp, sumL_cons, sumL_cons, offT_in (by simp), offT_in (by simp), e1]
      simp
    have e3 : sumL ct (trs ws []) = (ct a).length + ((ct b).length + sumL ct (trs (ws.eraseIdx j) [])) := by
      rw [sumL_perm hp, sumL_cons, sumL_cons]
    have e4 : sumT ct [a, b] 2 = (ct a).length + (ct b).length := by simp [sumT]
    omega
  · by_cases e : j' = j
    · subst e
      rw [hx] at hx'
      cases hx'
      exact ⟨offT_in (by simp), offT_in (by simp)⟩
    · obtain ⟨x1, x2⟩ := h5 j' a' b' (by omega) hx'
      refine ⟨?_, ?_⟩
      · by_cases e2 : a' ∈ [a, b]
        · exact offT_in e2
        · rw [offT_out e2]; exact x1
      · by_cases e2 : b' ∈ [a, b]
        · exact offT_in e2
        · rw [offT_out e2]; exact x2
theorem ME.b0 {dr N : Nat} (h : ME w0 N0 U c z d g sz m mn lw hi nb fm tm fr n Q dr N w) : Below w0.heap.size w0 w := by
  obtain ⟨_, _, _, _, h1, _⟩ := h.ex
  exact h1.b0
/-- All drained: the cache misses just what is out. -/
theorem ME.done {N : Nat} (h : ME w0 N0 U c z d g sz m mn lw hi nb fm tm fr n Q n N w) :
    Calls Tryz.prog 21 #[.pointer (some ⟨c, 0, none⟩)] w fun ev w' => (∃ r : Int, ev = .returned (.tuple #[.int .i64 (N : Int), .int .i64 r])) ∧ Below w.heap.size w w' := by
  obtain ⟨ss, nd, ws, ct, h1, h2, h4, h5⟩ := h.ex
  have hz : sumL ct (trs ws []) = 0 := sumL_zero fun t ht => by
    unfold trs at ht
    rw [List.append_nil] at ht
    obtain ⟨x, hx, hm⟩ := List.mem_flatMap.1 ht
    obtain ⟨i, hi⟩ := List.getElem?_of_mem hx
    obtain ⟨y1, y2⟩ := h5 i x.1 x.2 (by have := (List.getElem?_eq_some_iff.1 hi).1; omega) hi
    simp only [List.mem_cons, List.not_mem_nil, or_false] at hm
    rcases hm with rfl | rfl
    · exact y1
    · exact y2
  obtain ⟨ly, bs, q, f, rb, p1, _⟩ := h1.ex
  have h6 := tot_is m ss ss.length (Nat.le_refl _)
  rw [List.take_length, h4, hz] at h6
  refine (Sb.count_ok N0 c z ly sz m bs ss w p1.c (sl_len p1)).mono ?_
  rintro ev w' ⟨rfl, hb⟩
  exact ⟨⟨_, by rw [h6]; rfl⟩, hb⟩
set_option maxRecDepth 100000 in
set_option maxHeartbeats 8000000 in
theorem ME.drain {j N : Nat} (h : ME w0 N0 U c z d g sz m mn lw hi nb fm tm fr n Q j N w) (hN : w0.heap.size ≤ N0) (e : Nat → Addr) (he : ErrsM w0 e) (hj : j < n) :
    Calls Tryz.prog 38 #[.pointer (some ⟨d, 0, none⟩), .int .i64 (j : Int)] w fun ev w' => (∃ v : Int, ev = .returned (.tuple #[.int .i64 v, .nilIface])) ∧ ME w0 N0 U c z d g sz m mn lw hi nb fm tm fr n Q (j + 1) N w' ∧ UK U w w' := by
  obtain ⟨ss, nd, ws, ct, h1, h2, h4, h5⟩ := h.ex
  obtain ⟨gcp, e1, _⟩ := h1.db.d1
  have hil : j < ws.length := by omega
  obtain ⟨⟨a, b⟩, hx⟩ : ∃ ab, ws[j]? = some ab := ⟨_, List.getElem?_eq_getElem hil⟩
  obtain ⟨ga, gb, gf, gl⟩ := h1.cells hx
  obtain ⟨ma, mb, hab⟩ := h1.mem hx
  have HWK := hide (worker_yes e1 hil)
  have HTG : Hid (Tag w g 168) := by
    obtain ⟨cp1, _, o1⟩ := h1.db.d1
    exact own_tg o1
  have HGB : Hid (∀ (W : World) (_ : Below w.heap.size w W) (r cp : Nat), W.cell? ⟨r, 0, none⟩ = some (.pointer (some ⟨a, 0, none⟩)) → W.cell? ⟨r, 1, none⟩ = some (.pointer (some ⟨b, 0, none⟩)) → Tag W r 165 → Calls Tryz.prog 102 #[.pointer (some ⟨d, 0, none⟩), .slice (some ⟨r, 0, none⟩) 2 cp] W fun ev w' => (∃ v : Int, ev = .returned (.int .i64 v)) ∧ ME w0 N0 U c z d g sz m mn lw hi nb fm tm fr n Q (j + 1) N w' ∧ UK U w w' ∧ Sb.Same [164, 165, 168] W w') := fun W hB r cp x0 x1 xt => by
    have hW := h1.b hB
    refine (hW.x.gback_ok hN e he (Lx := [a, b]) (by simp [hab]) (fun t ht => by
      simp only [List.mem_cons, List.not_mem_nil, or_false] at ht
      rcases ht with rfl | rfl <;> assumption) (gb := r) (cp := cp) (fun i t hi => ?_) xt (by simp)).mono ?_
    · rcases i with _ | _ | i
      · cases hi; exact x0
      · cases hi; exact x1
      · cases hi
    · rintro ev w' ⟨rfl, hG⟩
      exact ⟨⟨_, rfl⟩, drained hW h2 h4 h5 hx hG, (h1.ukb hB).trans hG.uk, hG.sm⟩
  unfold ptr at ga gb
  clear h h1 h4 h5 ma mb hab hx e1
  go_enter Tryz.func38, Tryz.ntmps38
  go_wp2_with fail
  refine (unhide HWK).mono ?_
  rintro ev w1 ⟨rfl, b1⟩
  have ga1 := (b1.cell (p := ⟨g, j * 2, none⟩) gl).trans ga
  have gb1 := (b1.cell (p := ⟨g, j * 2 + 1, none⟩) gl).trans gb
  have HB1 := hide b1
  clear HWK b1 ga gb
  have HK : Hid (∀ W w3, Below w1.heap.size w1 W → Sb.Same [164, 165, 168] W w3 → w3.cell? ⟨g, j * 2, none⟩ = some (.pointer (some ⟨a, 0, none⟩)) ∧ w3.cell? ⟨g, j * 2 + 1, none⟩ = some (.pointer (some ⟨b, 0, none⟩))) := fun W w3 hb hs => by
    have hl1 : g < w1.heap.size := Nat.lt_of_lt_of_le gl (unhide HB1).size
    exact ⟨(cell_same hs (by simp) (((unhide HTG).b (unhide HB1)).b hb) _).trans ((hb.cell (p := ⟨g, j * 2, none⟩) hl1).trans ga1), (cell_same hs (by simp) (((unhide HTG).b (unhide HB1)).b hb) _).trans ((hb.cell (p := ⟨g, j * 2 + 1, none⟩) hl1).trans gb1)⟩
  go_wp2_with fail
  go_region_held3 (fun w' => w'.cell? ⟨g, j * 2, none⟩ = some (.pointer (some ⟨a, 0, none⟩)) ∧ w'.cell? ⟨g, j * 2 + 1, none⟩ = some (.pointer (some ⟨b, 0, none⟩))) (first | (go_keep; done) | exact (unhide HK) _ _ (by assumption) (by assumption) | exact (unhide HK) _ _ (ballo (drw _) _) (by assumption)) ((go_at_call 102; refine ((unhide HGB) _ (btr (unhide HB1) (ballo (drw _) _)) _ _ (World.cell?_alloc_at _ 165 _ 0 (by simp)) (World.cell?_alloc_at _ 165 _ 1 (by simp)) (tag_new _ _ _)).mono ?_; rintro ev w3 ⟨⟨v3, rfl⟩, M3, U3, S3⟩))
  go_wp2
  go_ret2
  exact ⟨⟨v3, rfl⟩, M3, U3⟩
end
end Mg
end Go.Proofs.YtfefehkapffljaaGreatDoor
namespace Go.Proofs.YtfefehkapffljaaGreatDoor
open Go.RowKit Go.Maps
namespace Mg
open Fr Bd Zn Dz Sb
/-- What stands at a place of the row of what is out. -/
theorem out_at {w : World} {B k cp j : Nat} {p : Option Addr} {l : List Bl} {x y : Int} (h : w.ownsRow B 42 2 (.slice p k cp) k (flat l)) (hl : l.length = k) (hj : l[j]? = some (x, y)) : ∃ g, p = some ⟨g, 0, none⟩ ∧ w.cell? ⟨g, j * 2, none⟩ = some (.int .i64 x) ∧ w.cell? ⟨g, j * 2 + 1, none⟩ = some (.int .i64 y) := by
  obtain ⟨hjl, hjx⟩ := List.getElem?_eq_some_iff.1 hj
  obtain ⟨g, cap, e, _⟩ := h.form (by omega)
  simp only [Value.slice.injEq] at e
  obtain ⟨rfl, _, rfl⟩ := e
  obtain ⟨f0, f1⟩ := flat_get l j hjl
  rw [hjx, Nat.mul_comm] at f0 f1
  exact ⟨g, rfl, (h.cellAt (j * 2) (by omega)).trans f0, (h.cellAt (j * 2 + 1) (by omega)).trans f1⟩
theorem row42 {w : World} {B k cp g : Nat} {l : List Bl} (h : w.ownsRow B 42 2 (.slice (some ⟨g, 0, none⟩) k cp) k (flat l)) (hl : l.length = k) : Row w g l ∧ k ≤ cp ∧ cp ≤ maxLen := by
  rcases h.2 with ⟨e, _⟩ | ⟨g', cap, cur, e, hb, hg, hle, hcap, hcs, hx⟩
  · cases e
  · simp only [Value.slice.injEq, Option.some.injEq, Addr.mk.injEq, and_true, true_and] at e
    obtain ⟨rfl, rfl⟩ := e
    refine ⟨⟨fun i hi => ?_, fun o _ => h.frozenAt o, (h.lt _ rfl).2⟩, hle, hcap⟩
    obtain ⟨f0, f1⟩ := flat_get l i hi
    rw [Nat.mul_comm] at f0 f1
    have e3 : l.getD i (0, 0) = l[i] := by rw [List.getD_eq_getElem?_getD, List.getElem?_eq_getElem hi]; rfl
    rw [e3]
    exact ⟨(h.cellAt (i * 2) (by omega)).trans f0, (h.cellAt (i * 2 + 1) (by omega)).trans f1⟩
section
variable {w0 : World} {N0 : Nat} {U V : Nat → Prop} {c z d g : Nat} {sz : Int} {m : Nat} {mn lw hi : Int} {nb fm tm : Nat → Nat} {fr : Nat → List Nat} {n Q Q' : Nat} {S lo : List Bl} {w w' : World}
/-- Who calls has a new row. -/
theorem MO.anew (h : MO w0 N0 U c z d g sz m mn lw hi nb fm tm fr n Q S lo w) (hb : Below w.heap.size w w') (hV : ∀ j, V j → Tag w' j 42 ∧ w.heap.size ≤ j) : MO w0 N0 V c z d g sz m mn lw hi nb fm tm fr n Q S lo w' :=
  h.map fun _ _ _ _ _ h => h.grown (fun j hj _ => hb.block j hj) hb.os hb.tape hb.output hb.size fun j hj => ⟨(hV j hj).1, Or.inr (hV j hj).2⟩
theorem MO.grown {v : Value} {g4 n4 c4 B : Nat} {xs : List Value} (h : MO w0 N0 (OB v) c z d g sz m mn lw hi nb fm tm fr n Q S lo w) (q4 : w.grownBy w' v.ownBlock) (o4 : w'.ownsRow B 42 2 (.slice (some ⟨g4, 0, none⟩) n4 c4) n4 xs) (hg : v.ownBlock = some g4 ∨ g4 = w.heap.size) : MO w0 N0 (OB (.slice (some ⟨g4, 0, none⟩) n4 c4)) c z d g sz m mn lw hi nb fm tm fr n Q S lo w' :=
  h.map fun _ _ _ _ _ h => h.grown (fun j hj hn => q4.block j hj (fun e => hn e.symm)) q4.os q4.tape q4.output q4.size (fun j hj => by
    simp only [OB, Value.ownBlock, Option.some.injEq] at hj
    subst hj
    refine ⟨own_tg o4, ?_⟩
    rcases hg with e | e
    · exact Or.inl e
    · exact Or.inr (by omega))
theorem MO.anyQ (h : MO w0 N0 U c z d g sz m mn lw hi nb fm tm fr n Q S lo w) (hq : Q ≤ Q') : MO w0 N0 U c z d g sz m mn lw hi nb fm tm fr n Q' S lo w := by
  obtain ⟨ss, nd, ws, pl, ct, h1, h2⟩ := h.ex
  obtain ⟨ly, bs, q, f, rb, p1, p2, p3⟩ := h1.ex
  exact ⟨⟨ss, nd, ws, pl, ct, ⟨h1.b0, ⟨ly, bs, q, f, rb, p1, p2, Nat.le_trans p3 hq⟩, h1.db, h1.pf, h1.tk, h1.uk, h1.ul, Nat.le_trans h1.pq hq⟩, h2⟩, h.nd⟩
/-- A fresh row's block. -/
theorem ob_new {v : Value} {k : Nat} {xs : List Value} (o : w'.ownsRow w.heap.size 42 2 v k xs) : ∀ j, OB v j → Tag w' j 42 ∧ w.heap.size ≤ j := fun j hj => by
  unfold OB at hj
  refine ⟨?_, own_row o j hj⟩
  rcases o.2 with ⟨rfl, _⟩ | ⟨g', cap', cur, rfl, _, hh, _⟩
  · cases hj
  · simp only [Value.ownBlock, Option.some.injEq] at hj
    subst hj
    exact ⟨cur, _, hh⟩
/-- A new depot, with nothing out. -/
theorem MO.fresh {ly : Ly} {bs : List Nat} {nd : Nat → Nd} (h : PS N0 w c z ly sz m bs [] mn lw hi 1 nb fm tm nd fr) (hb : Below w0.heap.size w0 w) (hN : N0 ≤ w.heap.size) (hly : ly.2 = .map #[] 0) {ws : List (Nat × Nat)} (hn : ws.length = n) (h1 : 1 ≤ n) (hD : DN N0 w c ws w') : ∃ g, MO w0 N0 (OB (.slice none 0 0)) c z w.heap.size g sz m mn lw hi nb fm tm fr n 0 [] [] w' := by
  obtain ⟨g, hg⟩ := DQ.fresh h hb hN hly (by omega) hD
  exact ⟨g, ⟨[], nd, ws, [], fun _ => [], hg.less (fun j hj => by cases hj), hn, fun o ho => (by cases ho), by rw [sumL_zero (fun _ _ => rfl)]; rfl, fun o ho => (by cases ho)⟩, List.nodup_nil⟩
end
end Mg
end Go.Proofs.YtfefehkapffljaaGreatDoor
