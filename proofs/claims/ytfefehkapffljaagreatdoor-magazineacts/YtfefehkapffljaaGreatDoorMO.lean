/- M38 · M37 · M39 · M40. -/
import Derived.Test.YtfefehkapffljaaGreatDoorKM
import Derived.Test.YtfefehkapffljaaGreatDoorMN
import Derived.Test.YtfefehkapffljaaGreatDoorMJ
namespace Go.Proofs.YtfefehkapffljaaGreatDoor
open Go.RowKit Go.ChangeShapes
namespace Mg
open Sb Fr Bd Zn Dz
theorem cells87 : Tryz.prog.cellsOf 87 = 7 := by kernel_rfl
section
variable {H : Type} {enc : TypeId × Value → H} {w : World} {base : Nat} {spare : Nat → Bool} {held : Bool}
structure DA where
 s : ByteArray
 k : Int
 x : Int
 n : Int
 u : Bool
 ox : Int
 oa : Int
instance : Inhabited DA := ⟨⟨ByteArray.empty, 0, 0, 0, false, 0, 0⟩⟩
def DActs (w : World) (p : Option Addr) (n : Nat) (A : Nat → DA) : Prop := ∀ i, i < n → ∃ blk off, p = some ⟨blk, off, none⟩ ∧ blk < w.heap.size ∧ w.cell? ⟨blk, off + i * 7, none⟩ = some (.string (A i).s) ∧ w.cell? ⟨blk, off + i * 7 + 1, none⟩ = some (.int .i64 (A i).k) ∧ w.cell? ⟨blk, off + i * 7 + 2, none⟩ = some (.int .i64 (A i).x) ∧ w.cell? ⟨blk, off + i * 7 + 3, none⟩ = some (.int .i64 (A i).n) ∧ w.cell? ⟨blk, off + i * 7 + 4, none⟩ = some (.bool (A i).u) ∧ w.cell? ⟨blk, off + i * 7 + 5, none⟩ = some (.int .i64 (A i).ox) ∧ w.cell? ⟨blk, off + i * 7 + 6, none⟩ = some (.int .i64 (A i).oa)
set_option maxRecDepth 10000 in
theorem open_dact {n : Nat} {a : Addr} {cs : List Value} {x : DataW H × List MemPlace} (h1 : w.cells? base a 7 = some cs) (h2 : DataW.trod enc Tryz.prog w base spare held n 87 cs = some x) :
   ∃ q : DA, w.cell? (a.add 0) = some (.string q.s) ∧ w.cell? (a.add 1) = some (.int .i64 q.k) ∧ w.cell? (a.add 2) = some (.int .i64 q.x) ∧ w.cell? (a.add 3) = some (.int .i64 q.n) ∧ w.cell? (a.add 4) = some (.bool q.u) ∧ w.cell? (a.add 5) = some (.int .i64 q.ox) ∧ w.cell? (a.add 6) = some (.int .i64 q.oa) ∧ (Lit.int .i64 q.k).wf = true ∧ (Lit.int .i64 q.n).wf = true := by
 obtain ⟨_, hlen, hcell⟩ := World.cells?_some h1
 obtain ⟨xs, k, hk, hxy, _, hxl, hf⟩ := DataW.trod_struct Tryz.underlying87 h2
 match xs, hxl, cs, hlen with
 | [y0, y1, y2, y3, y4, y5], _, [v0, v1, v2, v3, v4, v5, v6], _ =>
   have g0 := hf 0 _ rfl
   have g1 := hf 1 _ rfl
   have g2 := hf 2 _ rfl
   have g3 := hf 3 _ rfl
   have g4 := hf 4 _ rfl
   have g5 := hf 5 _ rfl
   simp [cellsOf9, cells3, cells4, cells42] at g0 g1 g2 g3 g4 g5
   have e0 := hcell 0 (by omega)
   have e1 := hcell 1 (by omega)
   have e2 := hcell 2 (by omega)
   have e3 := hcell 3 (by omega)
   have e4 := hcell 4 (by omega)
   have e5 := hcell 5 (by omega)
   have e6 := hcell 6 (by omega)
   obtain ⟨s, hs, _⟩ := DataW.trod_string Tryz.underlying9 g0
   obtain ⟨kk, hkk, _, wk⟩ := DataW.trod_int Tryz.underlying3 g1
   obtain ⟨z, hz, _, wz⟩ := DataW.trod_int Tryz.underlying3 g2
   obtain ⟨o, ho, _, wo⟩ := DataW.trod_int Tryz.underlying3 g3
   obtain ⟨u, hu, _⟩ := DataW.trod_bool Tryz.underlying4 g4
   obtain ⟨p0, p1, m, _, _, hp0, hp1⟩ := trod_struct2 Tryz.underlying42 g5
   simp [cells3] at hp0 hp1
   obtain ⟨px, hpx, _⟩ := DataW.trod_int Tryz.underlying3 hp0
   obtain ⟨pa, hpa, _⟩ := DataW.trod_int Tryz.underlying3 hp1
   simp at hs hkk hz ho hu hpx hpa
   subst hs hkk hz ho hu hpx hpa
   exact ⟨⟨s, kk, z, o, u, px, pa⟩, by simpa using e0, by simpa using e1, by simpa using e2, by simpa using e3, by simpa using e4, by simpa using e5, by simpa using e6, wk, wo⟩
theorem open_dacts {fuel : Nat} {cs : List Value} {x : DataW H × List MemPlace} (h : DataW.trod enc Tryz.prog w base spare held fuel 82 cs = some x) :
   ∃ (p : Option Addr) (len cap : Nat) (A : Nat → DA), cs = [.slice p len cap] ∧ DActs w p len A ∧ ∀ i, i < len → (Lit.int .i64 (A i).k).wf = true ∧ (Lit.int .i64 (A i).n).wf = true := by
 rcases Go.Deep.open_slice Tryz.underlying82 h with h0 | ⟨a, len, cap, m, n, D, Pl, rfl, hb, hl, hm, hmm, rfl, hx⟩
 · exact ⟨none, 0, 0, fun _ => default, h0.1, fun i hi => by omega, fun i hi => by omega⟩
 have hlm : len ≤ m := by rw [hmm]; split <;> omega
 obtain ⟨q, hq⟩ := Go.Deep.choose_lt (α := DA) (n := len) (p := fun i q => w.cell? ((a.add (i * 7)).add 0) = some (.string q.s) ∧ w.cell? ((a.add (i * 7)).add 1) = some (.int .i64 q.k) ∧ w.cell? ((a.add (i * 7)).add 2) = some (.int .i64 q.x) ∧ w.cell? ((a.add (i * 7)).add 3) = some (.int .i64 q.n) ∧ w.cell? ((a.add (i * 7)).add 4) = some (.bool q.u) ∧ w.cell? ((a.add (i * 7)).add 5) = some (.int .i64 q.ox) ∧ w.cell? ((a.add (i * 7)).add 6) = some (.int .i64 q.oa) ∧ (Lit.int .i64 q.k).wf = true ∧ (Lit.int .i64 q.n).wf = true) (fun i hi => by
   obtain ⟨cs', h1, h2⟩ := hx i (by omega)
   rw [cells87] at h1
   exact open_dact h1 h2)
 refine ⟨some a, len, cap, q, rfl, fun i hi => ?_, fun i hi => (hq i hi).2.2.2.2.2.2.2⟩
 have h0 := (hq 0 (by omega)).1
 obtain ⟨blk, off, rfl⟩ := plain_addr (by simpa [Addr.add] using h0)
 obtain ⟨c0, c1, c2, c3, c4, c5, c6, _⟩ := hq i hi
 simp only [add_at, Nat.add_zero] at c0 c1 c2 c3 c4 c5 c6
 exact ⟨blk, off, rfl, World.block_lt_of_cell? w _ c0, c0, c1, c2, c3, c4, c5, c6⟩
end
end Mg
end Go.Proofs.YtfefehkapffljaaGreatDoor
namespace Go.Proofs.YtfefehkapffljaaGreatDoor
open Go.RowKit Go.Maps
namespace Mg
open Fr Bd Zn Dz Sb
section
variable {w0 : World} {N0 : Nat} {U V : Nat → Prop} {c z d g : Nat} {sz : Int} {m : Nat} {mn lw hi : Int} {k : Nat} {nb fm tm : Nat → Nat} {fr : Nat → List Nat} {Q : Nat} {ss ssA : List Sl} {nd : Nat → Nd} {ws : List (Nat × Nat)} {pl L : List Nat} {ct ctA : Nat → List Bl} {w w' W : World}
structure GO (w0 : World) (N0 : Nat) (U : Nat → Prop) (c z d g : Nat) (sz : Int) (m : Nat) (mn lw hi : Int) (k : Nat) (nb fm tm : Nat → Nat) (fr : Nat → List Nat) (Q : Nat) (ss : List Sl) (nd : Nat → Nd) (ws : List (Nat × Nat)) (pl L : List Nat) (ct : Nat → List Bl) (Lx : List Nat) (i : Nat) (W w : World) : Prop where
 ex : ∃ ss', DX w0 N0 U c z d g sz m mn lw hi k nb fm tm fr Q ss' nd ws pl L (offT ct (Lx.take i)) w ∧ totL m ss' + sumT ct Lx i = totL m ss ∧ Cl m sz (OnT ct (Lx.take i)) ss ss'
 sm : Sb.Same [164, 165, 168] W w
 uk : UK U W w
theorem same_box {ts : List TypeId} {w1 : World} (h : Sb.Same ts w w1) {p t2 : Nat} (hp : Tag w1 p t2) (h2 : t2 ∉ ts) (o : Nat) (v : Value) : Sb.Same ts w (w1.setCell ⟨p, o, none⟩ v) := fun b t hm ht => by
 have h1 : b ≠ p := (tag_same h hm ht).ne hp (fun e => h2 (e ▸ hm))
 exact (Below.heap_setCell _ _ _ _ (by simp only; first | exact h1 | exact h1.symm)).trans (h b t hm ht)
theorem uk_box {w1 : World} (h : UK U w w1) {p : Nat} (hp : ∀ j, U j → j ≠ p) (ht : Tag w1 p 42) (o : Nat) (v : Value) : UK U w (w1.setCell ⟨p, o, none⟩ v) := ⟨fun j hj => by
 have h1 := hp j hj
 exact (Below.heap_setCell _ _ _ _ (by simp only; first | exact h1 | exact h1.symm)).trans (h.u j hj), same_box h.s ht (by decide) _ _, Nat.le_trans h.z (by simp [World.setCell])⟩
theorem GB.next {p' t : Nat} {ss2 ss3 : List Sl} {xs xs' : List Bl} {x y : Int} {b' : Bool} {w5 : World} (hc : totL m ss3 + 1 = totL m ss2) (hl : totL m ss2 + (ctA t).length = totL m ssA + xs.length + 1) (hD : DX w0 N0 (fun j => U j ∨ j = p') c z d g sz m mn lw hi k nb fm tm fr Q ss3 nd ws pl L (upN (upN ctA t xs) t xs') w5) {a1 a2 : Int} (hR : Rx w5 p' (.int .i64 a1) (.int .i64 a2)) (hT : b' = true → upN ctA t xs t = xs' ++ [(x, y)] ∧ Tkn m sz ss3 x y ∧ ∀ u ∈ L, (x, y) ∉ upN (upN ctA t xs) t xs' u) (hF : b' = false → xs' = [] ∧ upN ctA t xs t = []) (hs : Sb.Same [164, 165, 168] W w5) (hu : UK U W w5) (hp : ∀ j, U j → j ≠ p') (ht : t ∈ L) (hsub : ∀ o ∈ xs, o ∈ ctA t) (hC : Cl m sz (fun o => o ∈ ctA t ∧ o ∉ xs) ssA ss3) :
   GB w0 N0 U c z d g sz m mn lw hi k nb fm tm fr Q ssA nd ws pl L ctA t p' b' W ((w5.setCell ⟨p', 0, none⟩ (.int .i64 x)).setCell ⟨p', 1, none⟩ (.int .i64 y)) ∧ lenAt ((w5.setCell ⟨p', 0, none⟩ (.int .i64 x)).setCell ⟨p', 1, none⟩ (.int .i64 y)) t + (if b' then 1 else 0) ≤ xs.length := by
 rw [upN_upN] at hD hT
 rw [upN_at] at hT hF
 have h5 := (hD.setU (b := p') (Or.inr rfl) 0 (.int .i64 x)).setU (b := p') (Or.inr rfl) 1 (.int .i64 y)
 have hR2 := rx_two hR x y
 refine ⟨⟨⟨ss3, xs', x, y, h5, hR2, fun hb => ?_, fun hb => ?_, ?_, ?_⟩, same_box (same_box hs hR.tg (by decide) _ _) (hR.tg.set _ _) (by decide) _ _, uk_box (uk_box hu hp hR.tg _ _) hp (hR.tg.set _ _) _ _⟩, ?_⟩
 · obtain ⟨x1, x2, x3⟩ := hT hb
   refine ⟨x2, x3, ?_, hsub _ (by rw [x1]; simp)⟩
   rw [x1, List.length_append, List.length_singleton] at hl
   omega
 · obtain ⟨x1, x2⟩ := hF hb
   refine ⟨x1, ?_⟩
   rw [x2, List.length_nil] at hl
   omega
 · intro o ho
   cases b' with
   | true => exact hsub o (by rw [(hT rfl).1]; simp [ho])
   | false => rw [(hF rfl).1] at ho; cases ho
 · refine hC.congr fun o => ?_
   cases b' with
   | true =>
     rw [(hT rfl).1]
     simp only [List.mem_append, List.mem_singleton, not_or, forall_const]
   | false =>
     rw [(hF rfl).1, (hF rfl).2]
     simp
 · obtain ⟨r, hr, _⟩ := h5.lift0 ht
   rw [hr.lenAt, upN_at]
   cases b' with
   | true =>
     obtain ⟨x1, _⟩ := hT rfl
     rw [x1, List.length_append, List.length_singleton]
     simp
   | false =>
     obtain ⟨x1, _⟩ := hF rfl
     rw [x1]
     simp
set_option maxRecDepth 100000 in
set_option maxHeartbeats 16000000 in
theorem DX.gback_ok (h : DX w0 N0 U c z d g sz m mn lw hi k nb fm tm fr Q ss nd ws pl L ct w) (hN : w0.heap.size ≤ N0) (e : Nat → Addr) (he : ErrsM w0 e) {Lx : List Nat} (hnd : Lx.Nodup) (hsub : ∀ t ∈ Lx, t ∈ L) {gb cp : Nat} (hcl : ∀ i t, Lx[i]? = some t → w.cell? ⟨gb, i, none⟩ = some (.pointer (some ⟨t, 0, none⟩))) (hg : Tag w gb 165) (hl : Lx.length ≤ 1000000) :
   Calls Tryz.prog 102 #[.pointer (some ⟨d, 0, none⟩), .slice (some ⟨gb, 0, none⟩) Lx.length cp] w fun ev w' => ev = .returned (.int .i64 (sumT ct Lx Lx.length)) ∧ GO w0 N0 U c z d g sz m mn lw hi k nb fm tm fr Q ss nd ws pl L ct Lx Lx.length w w' := by
 have HCN := hide (count_ok (N0 := N0) (c := c) (ct := ct) (L := Lx) (cp := cp) hcl (fun t ht => ⟨_, (h.lift0 (hsub t ht)).choose_spec.1⟩) (fun t ht => (h.lift0 (hsub t ht)).choose_spec.2) hl)
 have HG0 : Hid (GO w0 N0 U c z d g sz m mn lw hi k nb fm tm fr Q ss nd ws pl L ct Lx 0 w w) := ⟨⟨ss, by rw [List.take_zero, offT_nil]; exact h, by simp [sumT], Cl.refl h.bms (fun o ⟨u, hu, _⟩ => by rw [List.take_zero] at hu; cases hu)⟩, fun _ _ _ _ => rfl, UK.refl _ _⟩
 have HCL := hide hcl
 have HTG := hide hg
 have HND := hide hnd
 have HSB := hide hsub
 have HE := hide he
 clear h hnd hsub hcl hg he
 generalize hn : Lx.length = n at *
 have HLN := hide hn
 clear hn
 generalize sumT ct Lx n = tot at *
 go_enter Tryz.func102, Tryz.ntmps102
 go_wp2_with fail
 refine (unhide HCN).mono ?_
 rintro ev w1 ⟨rfl, rfl⟩
 clear HCN
 go_wp2_with fail
 go_loopw [14] (fun s14 wr => ∃ i : Nat, s14 = .int .i64 i ∧ i ≤ n ∧ Hid (GO w0 N0 U c z d g sz m mn lw hi k nb fm tm fr Q ss nd ws pl L ct Lx i w1 wr)) (fun s _ => n - (RowKit.intOf s).toNat)
 case atStart => exact ⟨0, rfl, Nat.zero_le _, HG0⟩
 case round =>
   clear HG0
   obtain ⟨i, rfl, hii, HG⟩ := hrel
   have hi0 : (0 : Int) ≤ i := by omega
   by_cases hin : i < n
   · have hil : (i : Int) < n := by omega
     obtain ⟨t, ht⟩ : ∃ t, Lx[i]? = some t := ⟨_, List.getElem?_eq_getElem (by rw [unhide HLN]; exact hin)⟩
     have hgs : Tag wr gb 165 := tag_same (unhide HG).sm (by simp) (unhide HTG)
     have hc1 := (cell_same (unhide HG).sm (by simp) (unhide HTG) i).trans ((unhide HCL) i t ht)
     have htL := (unhide HSB) t (List.mem_of_getElem? ht)
     obtain ⟨ss1, D1, t1, q1⟩ := (unhide HG).ex
     have HQ1 := hide q1
     have hb1 := D1.bms
     have hct : offT ct (Lx.take i) t = ct t := offT_out (take_off (unhide HND) ht)
     have HLF := hide (D1.liftA hN htL)
     have HTL := hide htL
     have HT := hide ht
     have HCT := hide hct
     have HT1 := hide t1
     have HSM := hide (unhide HG).sm
     have HUK := hide (unhide HG).uk
     clear hgs ht D1 t1 htL hct HG q1
     go_wp2_with fail
     refine (unhide HLF).mono ?_
     rintro ev w2 ⟨oN, oA, b, xs, rfl, D2, uk2, sm2, hT2, hF2⟩
     have F := ballo (Below.refl w2.heap.size w2) (.cells #[.int .i64 oN, .int .i64 oA] 42)
     have R3 := rx_val w2 oN oA
     have hg1 : ∀ o ∈ xs, o ∈ offT ct (Lx.take i) t := fun o ho => by
       cases b with
       | true => rw [(hT2 rfl).1]; simp [ho]
       | false => rw [(hF2 rfl).1] at ho; cases ho
     have hg2 : ∀ o, ¬ (o ∈ offT ct (Lx.take i) t ∧ o ∉ xs ∧ (b = true → o ≠ (oN, oA))) := fun o ⟨z1, z2, z3⟩ => by
       cases b with
       | true =>
         rw [(hT2 rfl).1] at z1
         rcases List.mem_append.1 z1 with h | h
         · exact z2 h
         · exact z3 rfl (List.mem_singleton.1 h)
       | false => rw [(hF2 rfl).2] at z1; cases z1
     have HGB : Hid (GB w0 N0 U c z d g sz m mn lw hi k nb fm tm fr Q ss1 nd ws pl L (offT ct (Lx.take i)) t w2.heap.size b w1 (w2.alloc (.cells #[.int .i64 oN, .int .i64 oA] 42))) :=
       ⟨⟨ss1, xs, oN, oA, D2.more F (Nat.le_refl _) R3.tg, R3, fun hb => by
         obtain ⟨x1, x2, x3⟩ := hT2 hb
         exact ⟨x2, x3, by rw [x1, List.length_append, List.length_singleton]; omega, by rw [x1]; simp⟩, fun hb => by
         obtain ⟨x1, x2⟩ := hF2 hb
         exact ⟨x1, by rw [x2]; rfl⟩, hg1, Cl.refl hb1 hg2⟩, same_trans (unhide HSM) (same_trans sm2 (same_below F)), ((unhide HUK).trans uk2).trans (UK.below D2.uk F)⟩
     clear HLF D2 uk2 sm2 hT2 hF2 F R3 HSM HUK hc1 hg1 hg2 hb1
     go_wp2_with fail
     generalize w2.alloc (.cells #[.int .i64 oN, .int .i64 oA] 42) = W3 at *
     generalize w2.heap.size = p3 at *
     go_loopw [8, 9] (fun s8 s9 wr => ∃ (p : Nat) (b : Bool), s8 = .pointer (some ⟨p, 0, none⟩) ∧ s9 = .bool b ∧ Hid (GB w0 N0 U c z d g sz m mn lw hi k nb fm tm fr Q ss1 nd ws pl L (offT ct (Lx.take i)) t p b w1 wr)) (fun _ s9 wr => lenAt wr t + (match s9 with | .bool true => 1 | _ => 0))
     case atStart => exact ⟨p3, b, rfl, rfl, HGB⟩
     case round =>
       clear HGB
       obtain ⟨p, b, rfl, rfl, HB⟩ := hrel
       obtain ⟨ss2, xs, oN, oA, D4, R4, hT4, hF4, hX4, hC4⟩ := (unhide HB).ex
       have HSM := hide (unhide HB).sm
       have HUK := hide (unhide HB).uk
       cases b with
       | true =>
         obtain ⟨hT4a, hT4b, hT4c, hT4d⟩ := hT4 rfl
         have HX4 := hide hX4
         have HC4 := hide hC4
         have HT4D := hide hT4d
         have HT4B := hide hT4b
         have HFC := hide D4.facts
         have hlen : lenAt wr t = xs.length := by
           obtain ⟨r, hr, _⟩ := D4.lift0 (unhide HTL)
           rw [hr.lenAt, upN_at]
         have HCG := hide ((D4.b (drw wr)).cgive hN e (unhide HE) hT4a hT4b)
         have HTOT := hide hT4c
         have dt := D4.db.tg.b (drw wr)
         have dc := ((drw wr).cell (p := ⟨d, 0, none⟩) D4.db.tg.lt).trans D4.db.d0
         have R5 := R4.b (drw wr)
         unfold ptr objV at *
         have HK : Hid (∀ w3, Sb.Same [164, 165, 168] wr.drew w3 → UK (fun j => U j ∨ j = p) wr.drew w3 → w3.cell? ⟨d, 0, none⟩ = some (.pointer (some ⟨c, 0, none⟩)) ∧ w3.cell? ⟨p, 0, none⟩ = some (.int .i64 oN) ∧ w3.cell? ⟨p, 1, none⟩ = some (.int .i64 oA)) := fun w3 hs hu => by
           have R6 := R5.blk (hu.u p (Or.inr rfl))
           exact ⟨(cell_same hs (by simp) dt 0).trans dc, R6.c0, R6.c1⟩
         have HS2 := hide (same_trans (unhide HSM) (same_below (drw wr)))
         have HU2 := hide ((unhide HUK).trans (UK.below (fun j hj => D4.uk j (Or.inl hj)) (drw wr)))
         have dc0 := D4.db.d0
         unfold ptr at dc0
         obtain ⟨x0, x1, _, _⟩ := R4
         have HLEN := hide hlen
         clear hT4 hF4 D4 hT4a hT4b hT4c hT4d hX4 hC4 dt dc R5 HSM HUK HB hlen
         go_wp2_with fail
         go_region_held3 (fun w' => w'.cell? ⟨d, 0, none⟩ = some (.pointer (some ⟨c, 0, none⟩)) ∧ w'.cell? ⟨p, 0, none⟩ = some (.int .i64 oN) ∧ w'.cell? ⟨p, 1, none⟩ = some (.int .i64 oA)) (first | (go_keep; done) | exact (unhide HK) _ (by assumption) (by assumption)) ((go_at_call 15; refine (unhide HCG).mono ?_; rintro ev w3 ⟨rfl, j1, i1, s1, hg1, hs1, D6, uk6, sm6, tot6⟩))
         have HC6 : Hid (Cl m sz (fun o => o ∈ offT ct (Lx.take i) t ∧ o ∉ xs) ss1 (ss2.set j1 { s1 with bm := s1.bm &&& (18446744073709551615 - 2 ^ i1) })) := by
           obtain ⟨f1, f2, f3, f4, _⟩ := unhide HFC
           refine ((unhide HC4).trans (Cl.give f4 f1.2 f2 f3 hg1 hs1)).congr fun o => ?_
           have hx := (unhide HT4B) t (unhide HTL)
           rw [upN_at] at hx
           constructor
           · rintro (⟨z1, z2, _⟩ | rfl)
             · exact ⟨z1, z2⟩
             · exact ⟨unhide HT4D, hx⟩
           · rintro ⟨z1, z2⟩
             by_cases e : o = (oN, oA)
             · exact Or.inr e
             · exact Or.inl ⟨z1, z2, fun _ => e⟩
         generalize ss2.set j1 { s1 with bm := s1.bm &&& (18446744073709551615 - 2 ^ i1) } = ss3 at *
         have F := ballo (Below.refl w3.heap.size w3) (.cells #[.int .i64 oN, .int .i64 oA] 42)
         have R7 := rx_val w3 oN oA
         have D7 := (D6.more F (Nat.le_refl _) R7.tg).less (V := fun j => U j ∨ j = w3.heap.size) (fun j hj => hj.elim (fun h => Or.inl (Or.inl h)) Or.inr)
         have HLF := hide (D7.liftA hN (unhide HTL))
         have HPU : Hid (∀ j, U j → j ≠ w3.heap.size) := fun j hj => by have := (D6.uk j (Or.inl hj)).lt; omega
         have HS3 := hide (same_trans (unhide HS2) (same_trans sm6 (same_below F)))
         have HU3 := hide (((unhide HU2).trans (uk6.mono fun j hj => Or.inl hj)).trans (UK.below (fun j hj => D6.uk j (Or.inl hj)) F))
         have HR7 := hide R7
         obtain ⟨y0, y1⟩ := (unhide HK) w3 sm6 uk6
         have HT6 := hide tot6
         clear HCG HK HS2 HU2 x0 x1 dc0 hg1 hs1 D6 uk6 sm6 F R7 D7 tot6
         go_wp2_with fail
         refine (unhide HLF).mono ?_
         rintro ev w5 ⟨x', y', b', xs', rfl, D8, uk8, sm8, hT8, hF8⟩
         have R8 := (unhide HR7).blk (uk8.u _ (Or.inr rfl))
         have HN8 := hide (GB.next (ssA := ss1) (U := U) (unhide HT6) (unhide HTOT) D8 R8 hT8 hF8 (same_trans (unhide HS3) sm8) ((unhide HU3).trans (uk8.mono fun j hj => Or.inl hj)) (unhide HPU) (unhide HTL) (unhide HX4) (unhide HC6))
         obtain ⟨r0, r1, rfz, rt⟩ := R8
         have f0 := rfz 0
         have f1 := rfz 1
         generalize w3.heap.size = p' at *
         clear HLF D8 uk8 sm8 hT8 hF8 HR7 HS3 HU3 HPU rfz rt HT6 HTOT y0 y1
         go_wp2_with fail
         go_roundw
         case rel => exact ⟨p', b', rfl, rfl, (unhide HN8).1⟩
         case measure =>
           have h8 := (unhide HN8).2
           have h9 := unhide HLEN
           cases b' <;> simp at h8 ⊢ <;> omega
       | false =>
         obtain ⟨hxs0, hF5⟩ := hF4 rfl
         subst hxs0
         have D5 := D4.less (V := U) (fun j hj => Or.inl hj)
         rw [offT_next (unhide HT)] at D5
         have HG' : Hid (GO w0 N0 U c z d g sz m mn lw hi k nb fm tm fr Q ss nd ws pl L ct Lx (i + 1) w1 wr) := ⟨⟨ss2, D5, by rw [sumT_at (unhide HT)]; have := unhide HT1; rw [unhide HCT] at hF5; omega, ((unhide HQ1).trans hC4).congr fun o => by
           rw [unhide HCT, List.take_add_one, unhide HT]
           constructor
           · rintro (⟨v, hv, hm⟩ | ⟨z1, _⟩)
             · exact ⟨v, by simp [hv], hm⟩
             · exact ⟨t, by simp, z1⟩
           · rintro ⟨v, hv, hm⟩
             simp only [Option.toList_some, List.mem_append, List.mem_singleton] at hv
             rcases hv with hv | rfl
             · exact Or.inl ⟨v, hv, hm⟩
             · exact Or.inr ⟨hm, by simp, fun h => by cases h⟩⟩, unhide HSM, unhide HUK⟩
         clear D4 R4 hT4 hF4 hF5 D5 HB hX4 hC4
         go_wp2_with fail
         go_roundw
         case rel => exact ⟨i + 1, by go_num, by omega, HG'⟩
         case measure => simp [RowKit.intOf]; omega
   · obtain rfl : i = n := by omega
     have hnl : ¬ (i : Int) < i := by omega
     go_wp2
     go_ret
     exact ⟨rfl, unhide HG⟩
end
end Mg
end Go.Proofs.YtfefehkapffljaaGreatDoor
namespace Go.Proofs.YtfefehkapffljaaGreatDoor
open Go.RowKit Go.Maps
namespace Mg
open Fr Bd Zn Dz Sb
section
variable {w0 : World} {N0 : Nat} {U V : Nat → Prop} {c z d g : Nat} {sz : Int} {m : Nat} {mn lw hi : Int} {k : Nat} {nb fm tm : Nat → Nat} {fr : Nat → List Nat} {Q : Nat} {ss ssA : List Sl} {nd : Nat → Nd} {ws : List (Nat × Nat)} {pl L : List Nat} {ct ctA : Nat → List Bl} {w w' W : World} {n : Nat} {S lo : List Bl}
set_option maxRecDepth 100000 in
theorem gback_nil (w : World) (d cp : Nat) (p : Option Addr) : Calls Tryz.prog 102 #[.pointer (some ⟨d, 0, none⟩), .slice p 0 cp] w fun ev w' => ev = .returned (.int .i64 0) ∧ w' = w := by
 go_enter Tryz.func102, Tryz.ntmps102
 go_wp2_with fail
 refine count_nil.mono ?_
 rintro ev w1 ⟨rfl, rfl⟩
 go_wp2_with fail
 refine wp_loop_rounds 1 ?_
 rw [rounds_succ]
 go_wp2
 go_ret
 exact ⟨rfl, rfl⟩
theorem own_tg {b e size n g o d m : Nat} {xs : List Value} (h : w.ownsRow b e size (.slice (some ⟨g, o, none⟩) m d) n xs) : Tag w g e := by
 rcases h.2 with ⟨e2, _⟩ | ⟨g', cap, cur, e2, hg, hh, _⟩
 · cases e2
 · simp only [Value.slice.injEq, Option.some.injEq, Addr.mk.injEq] at e2
   obtain ⟨⟨rfl, _⟩, _⟩ := e2
   exact ⟨cur, _, hh⟩
end
end Mg
end Go.Proofs.YtfefehkapffljaaGreatDoor
namespace Go.Proofs.YtfefehkapffljaaGreatDoor
open Go.RowKit Go.Maps
namespace Mg
open Fr Bd Zn Dz Sb
theorem out_at {w : World} {B k cp j : Nat} {p : Option Addr} {l : List Bl} {x y : Int} (h : w.ownsRow B 42 2 (.slice p k cp) k (flat l)) (hl : l.length = k) (hj : l[j]? = some (x, y)) : ∃ g, p = some ⟨g, 0, none⟩ ∧ w.cell? ⟨g, j * 2, none⟩ = some (.int .i64 x) ∧ w.cell? ⟨g, j * 2 + 1, none⟩ = some (.int .i64 y) := by
 obtain ⟨hjl, hjx⟩ := List.getElem?_eq_some_iff.1 hj
 obtain ⟨g, cap, e, _⟩ := h.form (by omega)
 simp only [Value.slice.injEq] at e
 obtain ⟨rfl, _, rfl⟩ := e
 obtain ⟨f0, f1⟩ := flat_get l j hjl
 rw [hjx, Nat.mul_comm] at f0 f1
 exact ⟨g, rfl, (h.cellAt (j * 2) (by omega)).trans f0, (h.cellAt (j * 2 + 1) (by omega)).trans f1⟩
end Mg
end Go.Proofs.YtfefehkapffljaaGreatDoor
