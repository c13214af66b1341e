/- Package pool: a row's cells written anew; who waits goes out of the line; what is ready · Package pool: what it asks of its depot · Package pool's spare and fetch · Package pool's ask. -/
import Derived.Test.YtcbmfakjfoggaaaGreatDoorG34
import Derived.Test.YtcbmfakjfoggaaaGreatDoorG08
namespace Go.Proofs.YtcbmfakjfoggaaaGreatDoor
open Go.RowKit Go.Maps
namespace Pl
open Fr Bd Zn Dz Sb Mg
theorem take_set_lt {α : Type} : ∀ (xs : List α) (o : Nat) (v : α), (xs.set o v).take o = xs.take o
  | [], _, _ => by simp
  | _ :: _, 0, _ => rfl
  | x :: xs, o + 1, v => by simp [take_set_lt xs o v]
theorem drop_set_gt {α : Type} : ∀ (xs : List α) (o k : Nat) (v : α), o < k → (xs.set o v).drop k = xs.drop k
  | [], _, _, _, _ => by simp
  | x :: xs, 0, k + 1, v, _ => rfl
  | x :: xs, o + 1, k + 1, v, h => by simp [drop_set_gt xs o k v (by omega)]
theorem own_sets {_w : World} {B e size g n c : Nat} : ∀ (vs : List Value) (o : Nat) (xs : List Value) (w : World), w.ownsRow B e size (.slice (some ⟨g, 0, none⟩) n c) n xs → o + vs.length ≤ xs.length → (w.setCells g o vs).ownsRow B e size (.slice (some ⟨g, 0, none⟩) n c) n (xs.take o ++ vs ++ xs.drop (o + vs.length))
  | [], o, xs, w, h, hl => by simpa [World.setCells] using h
  | v :: vs, o, xs, w, h, hl => by
    have h1 := (h.stored o v).1
    simp only [List.length_cons] at hl
    have ih := own_sets (_w := w) vs (o + 1) (xs.set o v) (w.setCell ⟨g, o, none⟩ v) h1 (by rw [List.length_set]; omega)
    have e1 : (xs.set o v).take (o + 1) = xs.take o ++ [v] := by
      rw [List.take_add_one, take_set_lt, List.getElem?_set_self (by omega)]
      rfl
    have e2 : (xs.set o v).drop (o + 1 + vs.length) = xs.drop (o + (v :: vs).length) := by
      rw [drop_set_gt _ _ _ _ (by omega), List.length_cons]
      congr 1; omega
    rw [e1, e2] at ih
    simpa [World.setCells, List.append_assoc] using ih
section
variable {B : Nat} {w w' : World} {pb d tm ym : Nat} {P : Ps}
/-- The first of the line goes out. -/
theorem line_pop (h : PLm B w pb d tm ym P) {t : Nat} {L : List Nat} (hL : P.L = t :: L) :
    ∃ b c, P.vl = .slice (some ⟨b, 0, none⟩) (L.length + 1) c ∧ w.cell? ⟨b, 0, none⟩ = some (.int .i64 t) ∧ ∀ W, W.heap[b]? = w.heap[b]? → Calls Tryz.prog 96 #[.slice (some ⟨b, 0, none⟩) (L.length + 1) c, .int .i64 0, .int .i64 1] W fun ev w' => ev = .returned (.slice (some ⟨b, 0, none⟩) L.length c) ∧ w'.ownsRow B 3 1 (.slice (some ⟨b, 0, none⟩) L.length c) L.length (ivs L) ∧ Kept b b W w' := by
  have hl := h.l
  have hlen : P.L.length = L.length + 1 := by rw [hL]; rfl
  obtain ⟨b, c, hv, _⟩ := hl.form (by omega)
  obtain ⟨f1, f2, f3, f4⟩ := line_cells h hv
  have hc0 : w.cell? ⟨b, 0, none⟩ = some (.int .i64 t) := by
    have := f1 0 (by simp; omega)
    rw [hL] at this
    simpa using this
  rw [hv, hlen] at hl
  refine ⟨b, c, by rw [hv, hlen], hc0, fun W hW => ?_⟩
  have hlW := own_keepF hl (fun g hg => by
    obtain rfl : b = g := by simpa [Value.ownBlock] using hg
    exact hW)
  refine (Sh.slices_Delete_int_cells b 0 (L.length + 1) c 0 1 (P.L.map Int.ofNat) W (by rw [List.length_map]; omega) (by omega) (by unfold maxLen at f3; omega) (by omega) (by omega) (fun j hj => (World.cell?_of_block (w := w) (a := ⟨b, 0 + j, none⟩) hW).trans (f1 j hj)) (fun j hj => (World.frozen?_of_block (w := w) (a := ⟨b, 0 + j, none⟩) hW).trans (f4 j (by omega)))).mono ?_
  rintro ev w' ⟨rfl, q, rfl⟩
  have hd : (W.drewN q).ownsRow B 3 1 (.slice (some ⟨b, 0, none⟩) (L.length + 1) c) (L.length + 1) (ivs P.L) := own_b hlW (bdN (Below.refl _ _) q)
  have e1 : ((((P.L.map Int.ofNat).take (L.length + 1)).take 0 ++ ((P.L.map Int.ofNat).take (L.length + 1)).drop 1 ++ List.replicate (1 - 0) 0).map (Value.int .i64)) = ivs L ++ [.int .i64 0] := by
    rw [hL]
    simp [ivs]
    rw [List.take_of_length_le (by simp)]
    rfl
  have hs := own_sets (_w := W) (ivs L ++ [.int .i64 0]) 0 (ivs P.L) (W.drewN q) hd (by simp [ivs, hL])
  refine ⟨rfl, ?_, ?_⟩
  · rw [e1]
    refine own_cut hs (by omega) ?_
    simp [ivs]
  · rw [e1]
    exact (kept_of (bdN (Below.refl _ _) q)).trans (kept_sets _ _ _)
end
end Pl
end Go.Proofs.YtcbmfakjfoggaaaGreatDoor
namespace Go.Proofs.YtcbmfakjfoggaaaGreatDoor
open Go.RowKit Go.Maps
namespace Pl
open Fr Bd Zn Dz Sb Mg
section
variable {B : Nat} {w w' : World} {pb d tm ym n c : Nat} {P : Ps} {p : Option Addr}
set_option maxRecDepth 100000 in
theorem dworkers_ok (h : w.cell? ⟨d, 1, none⟩ = some (.slice p n c)) : Calls Tryz.prog 180 #[.pointer (some ⟨d, 0, none⟩)] w fun ev w' => ev = .returned (.int .i64 n) ∧ w' = w := by
  go_enter Tryz.func180, Tryz.ntmps180
  go_wp2
  go_ret
  exact ⟨rfl, rfl⟩
set_option maxRecDepth 100000 in
theorem pworkers_ok (h0 : w.cell? ⟨pb, 0, none⟩ = some (.pointer (some ⟨d, 0, none⟩))) (h : w.cell? ⟨d, 1, none⟩ = some (.slice p n c)) : Calls Tryz.prog 107 #[.pointer (some ⟨pb, 0, none⟩)] w fun ev w' => ev = .returned (.int .i64 n) ∧ w' = w := by
  have HC := hide (dworkers_ok h)
  clear h
  go_enter Tryz.func107, Tryz.ntmps107
  go_wp2_with fail
  refine (unhide HC).mono ?_
  rintro ev w1 ⟨rfl, rfl⟩
  go_wp2
  go_ret
  exact ⟨rfl, rfl⟩
set_option maxRecDepth 100000 in
theorem check_ok (h0 : w.cell? ⟨pb, 0, none⟩ = some (.pointer (some ⟨d, 0, none⟩))) (h : w.cell? ⟨d, 1, none⟩ = some (.slice p n c)) {e1 : Addr} (he : w.cell? ⟨1, 0, none⟩ = some (errV e1)) (x : Int) : Calls Tryz.prog 71 #[.pointer (some ⟨pb, 0, none⟩), .int .i64 x] w fun ev w' => ev = .returned (if 0 ≤ x ∧ x < n then .nilIface else errV e1) ∧ w' = w := by
  have HC := hide (pworkers_ok h0 h)
  unfold errV at *
  clear h
  by_cases c1 : x < 0
  · have d1 : decide (x < 0) = true := by simpa using c1
    rw [if_neg (by omega)]
    go_enter Tryz.func71, Tryz.ntmps71
    go_wp2
    go_ret
    exact ⟨rfl, rfl⟩
  · have d1 : decide (x < 0) = false := by simpa using c1
    by_cases c2 : x < n
    · have d2 : decide (x ≥ (n : Int)) = false := by simp; omega
      have d3 : decide ((n : Int) ≤ x) = false := by simp; omega
      rw [if_pos (by omega)]
      clear he
      go_enter Tryz.func71, Tryz.ntmps71
      go_wp2_with fail
      refine (unhide HC).mono ?_
      rintro ev w1 ⟨rfl, rfl⟩
      go_wp2
      go_ret
      exact ⟨rfl, rfl⟩
    · have d2 : decide (x ≥ (n : Int)) = true := by simp; omega
      have d3 : decide ((n : Int) ≤ x) = true := by simp; omega
      rw [if_neg (by omega)]
      go_enter Tryz.func71, Tryz.ntmps71
      go_wp2_with fail
      refine (unhide HC).mono ?_
      rintro ev w1 ⟨rfl, rfl⟩
      go_wp2
      go_ret
      exact ⟨rfl, rfl⟩
set_option maxRecDepth 100000 in
theorem cacheof_ok {cb : Nat} (hc : w.cell? ⟨d, 0, none⟩ = some (.pointer (some ⟨cb, 0, none⟩))) : Calls Tryz.prog 72 #[.pointer (some ⟨d, 0, none⟩)] w fun ev w' => ev = .returned (.pointer (some ⟨cb, 0, none⟩)) ∧ w' = w := by
  go_enter Tryz.func72, Tryz.ntmps72
  go_wp2
  go_ret
  exact ⟨rfl, rfl⟩
set_option maxRecDepth 100000 in
theorem eql_nil (a : Addr) (w : World) : (binOp BinOp.eql 29 .nilIface (.iface 424 (.pointer (some a)))).run Tryz.prog w = .ok (.bool false) w := by kernel_rfl
set_option maxRecDepth 100000 in
theorem is_nil (a : Addr) (w : World) : Calls Tryz.prog 150 #[.nilIface, .iface 424 (.pointer (some a))] w fun ev w' => ev = .returned (.bool false) ∧ w' = w := by
  have HQ := eql_nil a w
  go_enter Tryz.func150, Tryz.ntmps150
  go_wp2
  go_ret
  exact ⟨rfl, rfl⟩
end
end Pl
end Go.Proofs.YtcbmfakjfoggaaaGreatDoor
namespace Go.Proofs.YtcbmfakjfoggaaaGreatDoor
open Go.RowKit Go.Maps
namespace Pl
open Fr Bd Zn Dz Sb Mg
section
variable {B : Nat} {w w' : World} {pb d tm ym n c : Nat} {P : Ps} {p : Option Addr}
set_option maxRecDepth 100000 in
set_option maxHeartbeats 4000000 in
theorem spare_some (h : PLm B w pb d tm ym P) {R : List Bl} {o : Bl} (hR : P.R = R ++ [o]) :
    Calls Tryz.prog 77 #[.pointer (some ⟨pb, 0, none⟩)] w fun ev w' => ev = .returned (.tuple #[objV o.1 o.2, .nilIface]) ∧ ∃ v', PLm B w' pb d tm ym { P with R := R, vr := v' } ∧ Kp (fun b => b = pb) w w' ∧ ∀ j, OB v' j → OB P.vr j := by
  have F1 := ballo (Below.refl w.heap.size w) (.cells #[.int .i64 0, .int .i64 0] 34)
  have R1 := hide (rx_new w)
  have h1 := h.b F1
  have hlen : P.R.length = R.length + 1 := by rw [hR]; simp
  obtain ⟨g, cap, hv, hg, hgl⟩ := h1.r.form (by omega)
  have hr := h1.r
  rw [hv, hlen] at hr
  have hfl := flat_get P.R R.length (by omega)
  have ho : P.R[R.length]'(by omega) = o := by simp [hR]
  rw [ho] at hfl
  have z0 := (hr.cellAt (2 * R.length) (by omega)).trans hfl.1
  have z1 := (hr.cellAt (2 * R.length + 1) (by omega)).trans hfl.2
  rw [Nat.mul_comm 2] at z0 z1
  have c2 := h1.c2
  rw [hv, hlen] at c2
  have f2 := h1.fz 2
  have hk0 : (0 : Int) ≤ (R.length : Int) := by omega
  have hk1 : (R.length : Int) < ((R.length + 1 : Nat) : Int) := by omega
  have hk2 : ((R.length + 1 : Nat) : Int) - 1 = (R.length : Int) := by omega
  have hbig : R.length + 1 ≤ 9223372036854775807 := by have := own_max hr; omega
  have d1 : decide ((R.length : Int) < 0) = false := by simp
  have hcap1 := (own_cap hr).1
  have hcap : R.length ≤ cap := by omega
  have hcut := own_cut (k := R.length) (ys := flat R) hr (by omega) (by rw [hR, flat_append, ← flat_length R]; simp)
  have H1 := hide h1
  have HC := hide hcut
  have HF := hide F1
  have HV := hide hv
  have hpl := h1.tg.lt
  have hgp : g ≠ pb := (own_tag hr).ne h1.tg (by decide)
  have hpw := h.tg.lt
  have hgw : g < w.heap.size := by
    have h2 := h.r
    rw [hv] at h2
    exact (h2.lt g rfl).2
  obtain ⟨oN, oA⟩ := o
  simp only at *
  clear h h1 hr hcut hfl ho hR F1 hlen hv hgl hg
  generalize hkk : R.length = k at *
  have HK := hide hkk
  clear hkk
  unfold objV at *
  go_enter Tryz.func77, Tryz.ntmps77
  go_upto_region 1 with (fail)
  generalize hW : w.alloc (.cells #[.int .i64 0, .int .i64 0] 34) = W at *
  have hWb : w.heap.size < W.heap.size := (unhide R1).tg.lt
  have B4 := ballo (Below.refl W.heap.size W) (.cells #[.int .i64 oN, .int .i64 oA] 34)
  have q' := World.cell?_alloc_new W #[.int .i64 oN, .int .i64 oA] 34
  have q0 := q' 0
  have q1 := q' 1
  simp only [List.getElem?_toArray, List.getElem?_cons_zero, List.getElem?_cons_succ] at q0 q1
  have H4 := hide ((unhide H1).b B4)
  have R4 := hide ((unhide R1).b B4)
  have HC4 := hide (own_b (unhide HC) B4)
  have x2 := (B4.cell (p := ⟨pb, 2, none⟩) hpl).trans c2
  have xf := (B4.frozen (p := ⟨pb, 2, none⟩) hpl).trans f2
  have HF4 := hide (btr (unhide HF) B4)
  have hb4 : W.heap.size ≠ w.heap.size := by omega
  have hb5 : W.heap.size ≠ pb := by omega
  go_upto_region 5 with (fail)
  clear q' B4 H1 R1 HC HF c2 f2 z0 z1
  generalize W.alloc (.cells #[.int .i64 oN, .int .i64 oA] 34) = W4 at *
  generalize W.heap.size = b4 at *
  have H5 := hide ((unhide H4).put2 (w' := W4) (R' := R) (fun b _ => rfl) (by rw [unhide HK]; exact unhide HC4))
  have R5 := (unhide R4).blk (w' := W4.setCell ⟨pb, 2, none⟩ (.slice (some ⟨g, 0, none⟩) k cap)) (Below.heap_setCell _ _ _ _ (by simp only; omega))
  have K5 := hide ((Kp.below (S := fun b => b = pb) (unhide HF4)).trans (Kp.set (S := fun b => b = pb) W4 pb 2 (.slice (some ⟨g, 0, none⟩) k cap) rfl))
  have q50 : (W4.setCell ⟨pb, 2, none⟩ (.slice (some ⟨g, 0, none⟩) k cap)).cell? ⟨b4, 0, none⟩ = some (.int .i64 oN) := (cso (by simp <;> omega)).trans q0
  have q51 : (W4.setCell ⟨pb, 2, none⟩ (.slice (some ⟨g, 0, none⟩) k cap)).cell? ⟨b4, 1, none⟩ = some (.int .i64 oA) := (cso (by simp <;> omega)).trans q1
  go_upto_region 6 with (fail)
  clear q0 q1 H4 R4 HC4 HF4 x2 xf
  generalize W4.setCell ⟨pb, 2, none⟩ (.slice (some ⟨g, 0, none⟩) k cap) = W5 at *
  obtain ⟨r0, r1, rfz, rt⟩ := R5
  have f0 := rfz 0
  have f1 := rfz 1
  obtain ⟨t0, t1⟩ := set2_at r0 r1 (.int .i64 oN) (.int .i64 oA)
  have hlt5 := rt.lt
  go_wp2
  refine bodyPost_ret (v := .tuple #[.agg #[.int .i64 oN, .int .i64 oA], .nilIface]) (by simp [results, Tryz.results77, go_sem, t0, t1]; try rfl) rfl ?_
  exact ⟨rfl, _, (unhide H5).box2 rt (fun e => by
    obtain rfl : g = w.heap.size := by simpa [OB, Value.ownBlock] using e
    omega) _ _, Kp.box2 (unhide K5) (Nat.le_refl _) _ _, fun j hj => by rw [unhide HV]; exact hj⟩
set_option maxRecDepth 100000 in
set_option maxHeartbeats 4000000 in
theorem spare_none (h : PLm B w pb d tm ym P) (hR : P.R = []) (hB : B ≤ w.heap.size) (e7 : Addr) (he : w.cell? ⟨7, 0, none⟩ = some (errV e7)) (hlow : 7 < B) (hl : P.L.length < 8) (htk : P.tk < 1000000000000) :
    Calls Tryz.prog 77 #[.pointer (some ⟨pb, 0, none⟩)] w fun ev w' => ev = .returned (.tuple #[objV 0 0, errV e7]) ∧ ∃ vl', PLm B w' pb d tm ym { P with L := P.L ++ [P.tk + 1], tk := P.tk + 1, vl := vl' } ∧ Kp (fun b => b = pb ∨ OB P.vl b) w w' ∧ ∀ j, OB vl' j → OB P.vl j ∨ w.heap.size ≤ j := by
  have F1 := ballo (Below.refl w.heap.size w) (.cells #[.int .i64 0, .int .i64 0] 34)
  have R1 := rx_new w
  have h1 := h.b F1
  have HWT := hide (wait_ok h1 (Nat.le_trans hB F1.size) e7 ((F1.cell (p := ⟨7, 0, none⟩) (by have := World.block_lt_of_cell? w _ he; exact this)).trans he) hlow hl htk)
  obtain ⟨p, c, hv⟩ := own_sl h1.r
  have c2 := h1.c2
  rw [hv, hR] at c2
  simp only [List.length_nil] at c2
  have hvl : ∀ j, OB P.vl j → j < w.heap.size := fun j hj => (ob_tag h.l hj).1.lt
  have hvr : ∀ j, OB P.vr j → j < w.heap.size := fun j hj => (ob_tag h.r hj).1.lt
  have hpw := h.tg.lt
  have HR1 := hide R1
  have HF := hide F1
  have hsz : (w.alloc (.cells #[.int .i64 0, .int .i64 0] 34)).heap.size = w.heap.size + 1 := by simp
  have HVL := hide hvl
  have HVR := hide hvr
  clear h h1 hv hR he F1 R1 hvl hvr
  unfold objV errV at *
  go_enter Tryz.func77, Tryz.ntmps77
  go_upto_region 1 with (fail)
  generalize w.alloc (.cells #[.int .i64 0, .int .i64 0] 34) = W at *
  go_wp2_with fail
  refine (unhide HWT).mono ?_
  rintro ev w1 ⟨rfl, vl', H1, K1, G1⟩
  have R2 := (unhide HR1).blk (w' := w1) (K1.blk w.heap.size (by omega) (by
    rintro (e | e)
    · omega
    · have := (unhide HVL) _ e; omega))
  have HK := hide ((Kp.below (S := fun b => b = pb ∨ OB P.vl b) (unhide HF)).trans K1)
  have HH := hide H1
  have HG := hide G1
  obtain ⟨r0, r1, rfz, rt⟩ := R2
  have f0 := rfz 0
  have f1 := rfz 1
  obtain ⟨t0, t1⟩ := set2_at r0 r1 (.int .i64 0) (.int .i64 0)
  clear H1 K1 G1 c2 HR1 HF HWT
  go_wp2
  refine bodyPost_ret (v := .tuple #[.agg #[.int .i64 0, .int .i64 0], .iface 424 (.pointer (some e7))]) (by simp [results, Tryz.results77, go_sem, t0, t1]; try rfl) rfl ?_
  refine ⟨rfl, vl', (unhide HH).box2 rt (fun e => by have := (unhide HVR) _ e; omega) _ _, Kp.box2 (unhide HK) (Nat.le_refl _) _ _, fun j hj => ?_⟩
  rcases (unhide HG) j hj with e | e
  · exact Or.inl e
  · exact Or.inr (by omega)
end
end Pl
end Go.Proofs.YtcbmfakjfoggaaaGreatDoor
namespace Go.Proofs.YtcbmfakjfoggaaaGreatDoor
open Go.RowKit Go.Maps
namespace Pl
open Fr Bd Zn Dz Sb Mg
/-- A depot's Take on a node that is one, by a worker that is one: an object, ErrFull or ErrLow. -/
theorem TkA.err {C : Dc} {S S' : Ds} {x y : Int} {u : Bool} {r : Option Nat} {o : Bl} (h : TkA C S x y u r o S') (hx : 0 ≤ x ∧ x < S.ws.length) (hy : 0 ≤ y ∧ y < C.k) : r = none ∨ ((r = some 4 ∨ r = some 6) ∧ o = (0, 0)) := by
  cases h with
  | bad h => omega
  | lift => exact Or.inl rfl
  | no i a b a' b' pl' n hx' hws hl hc hn hr =>
    right
    rcases hr with ⟨_, h2⟩ | ⟨x', _, _, _, _, h8⟩
    · exact absurd hy h2
    · refine ⟨?_, rfl⟩
      rw [h8]
      split
      · exact Or.inr rfl
      · exact Or.inl rfl
  | old => exact Or.inl rfl
  | new => exact Or.inl rfl
/-- What ask answers. -/
def askV (_e : Nat → Addr) (lk : Nat) (o : Bl) : Option Nat → Value
  | none => .tuple #[objV o.1 o.2, .nilIface]
  | some _ => .tuple #[objV 0 0, .iface 147 (.pointer (some ⟨lk, 0, none⟩))]
section
variable {C : Dc} {U : Nat → Prop} {X : Nat → Option Obj} {S : Ds} {w : World} {pb : Nat} {e : Nat → Addr}
set_option maxRecDepth 100000 in
set_option maxHeartbeats 4000000 in
theorem ask_ok (h : DK C U X S w) (hN : C.w0.heap.size ≤ C.N0) (he : Errs C.w0 e) (h0 : w.cell? ⟨pb, 0, none⟩ = some (.pointer (some ⟨C.d, 0, none⟩))) (hpb : Tag w pb 144) {x y : Int} (hx : 0 ≤ x ∧ x < S.ws.length) (hy : 0 ≤ y ∧ y < C.k) :
    Calls Tryz.prog 75 #[.pointer (some ⟨pb, 0, none⟩), .int .i64 x, .int .i64 y] w fun ev w' => ∃ r o S' lk, ev = .returned (askV e lk o r) ∧ TkA C S x y false r o S' ∧ DK C U X S' w' ∧ UK U w w' := by
  have F1 := ballo (Below.refl w.heap.size w) (.cells #[.int .i64 0, .int .i64 0] 34)
  have R1 := rx_new w
  have H1 := DQ.more h F1 (Nat.le_refl _) R1.tg
  have HTK := hide (DK.take (C := C) (S := S) H1 hN he.toM x y false)
  have c0 := (F1.cell (p := ⟨pb, 0, none⟩) hpb.lt).trans h0
  have HUK := hide (DQ.ukb h F1)
  have HR1 := hide R1
  have hUw : Hid (∀ j, U j → j < w.heap.size) := fun j hj => (DQ.uk h j hj).lt
  have HE := hide he
  have HXY := hide (And.intro hx hy)
  clear h h0 hpb F1 R1 H1 he hx hy
  unfold objV at *
  go_enter Tryz.func75, Tryz.ntmps75
  go_upto_region 1 with (fail)
  generalize w.alloc (.cells #[.int .i64 0, .int .i64 0] 34) = W at *
  go_wp2_with fail
  refine (unhide HTK).mono ?_
  rintro ev w2 ⟨r, o, S', rfl, hT, D2, uk2⟩
  have hr := hT.err (unhide HXY).1 (unhide HXY).2
  obtain ⟨oN, oA⟩ := o
  have F3 := ballo (Below.refl w2.heap.size w2) (.cells #[.int .i64 oN, .int .i64 oA] 34)
  have q' := World.cell?_alloc_new w2 #[.int .i64 oN, .int .i64 oA] 34
  have q0 := q' 0
  have q1 := q' 1
  simp only [List.getElem?_toArray, List.getElem?_cons_zero, List.getElem?_cons_succ] at q0 q1
  have D3 := D2.b F3
  have R3 := ((unhide HR1).blk (uk2.u w.heap.size (Or.inr rfl))).b F3
  have U3 := hide (((unhide HUK).trans (uk2.mono fun j hj => Or.inl hj)).trans ((DQ.ukb D2 F3).mono fun j hj => Or.inl hj))
  have E3 := (unhide HE).below (DQ.b0 D3)
  have hb3 : w2.heap.size ≠ w.heap.size := by
    have := ((unhide HR1).blk (uk2.u w.heap.size (Or.inr rfl))).tg.lt
    omega
  have HD3 := hide D3
  have HT := hide hT
  have HR3 := hide R3
  simp only at *
  clear HTK HR1 HUK D2 uk2 F3 q' D3 R3 hT c0
  unfold erV errV at *
  go_upto_region 2 with (fail)
  generalize w2.alloc (.cells #[.int .i64 oN, .int .i64 oA] 34) = W3 at *
  generalize w2.heap.size = b3 at *
  have v6 := E3.v6
  have v4 := E3.v4
  have hne : e 4 ≠ e 6 := fun h => by have := E3.inj 4 6 (by omega) (by omega) h; omega
  obtain ⟨cc4, ct4, hh4⟩ := E3.blk 4 (by omega)
  obtain ⟨cc6, ct6, hh6⟩ := E3.blk 6 (by omega)
  have IO := hide (is_other (e 4) (e 6) cc4 cc6 ct4 ct6 W3 hne hh4 hh6)
  clear E3 hne hh4 hh6
  rcases hr with rfl | ⟨rfl | rfl, ho⟩
  · simp only
    have N6 := hide (is_nil (e 6) W3)
    have N4 := hide (is_nil (e 4) W3)
    clear IO
    go_wp2_with fail
    refine (unhide N6).mono ?_
    rintro ev w4 ⟨rfl, rfl⟩
    clear N6
    go_wp2_with fail
    refine (unhide N4).mono ?_
    rintro ev w5 ⟨rfl, rfl⟩
    obtain ⟨r0, r1, rfz, rt⟩ := unhide HR3
    have f0 := rfz 0
    have f1 := rfz 1
    obtain ⟨t0, t1⟩ := set2_at r0 r1 (.int .i64 oN) (.int .i64 oA)
    clear rfz N4
    go_wp2
    refine bodyPost_ret (v := .tuple #[.agg #[.int .i64 oN, .int .i64 oA], .nilIface]) (by simp [results, Tryz.results75, go_sem, t0, t1]; try rfl) rfl ?_
    refine ⟨none, (oN, oA), S', 0, rfl, unhide HT, ((DQ.setU (DQ.setU (unhide HD3) (Or.inr rfl) 0 _) (Or.inr rfl) 1 _).less fun j hj => Or.inl hj), ?_⟩
    exact ((unhide U3).box (unhide hUw) (Nat.le_refl _) _ _).box (unhide hUw) (Nat.le_refl _) _ _
  · simp only
    have N4 := hide (is_same (e 4) W3)
    go_wp2_with fail
    refine (unhide IO).mono ?_
    rintro ev w4 ⟨rfl, rfl⟩
    clear IO
    go_wp2_with fail
    refine (unhide N4).mono ?_
    rintro ev w5 ⟨rfl, rfl⟩
    obtain ⟨r0, r1, rfz, rt⟩ := unhide HR3
    have f0 := rfz 0
    have f1 := rfz 1
    obtain ⟨t0, t1⟩ := set2_at r0 r1 (.int .i64 0) (.int .i64 0)
    have hrs := rt.lt
    have hrs2 : w.heap.size ≠ w5.heap.size := by omega
    have hz6 : ((w5.setCell ⟨w.heap.size, 0, none⟩ (.int .i64 0)).setCell ⟨w.heap.size, 1, none⟩ (.int .i64 0)).heap.size = w5.heap.size := by simp [World.setCell]
    have D5 := DQ.setU (DQ.setU (unhide HD3) (Or.inr rfl) 0 (.int .i64 0)) (Or.inr rfl) 1 (.int .i64 0)
    have F5 := ballo (Below.refl ((w5.setCell ⟨w.heap.size, 0, none⟩ (.int .i64 0)).setCell ⟨w.heap.size, 1, none⟩ (.int .i64 0)).heap.size ((w5.setCell ⟨w.heap.size, 0, none⟩ (.int .i64 0)).setCell ⟨w.heap.size, 1, none⟩ (.int .i64 0))) (.cells #[.iface 424 (.pointer (some (e 4)))] 258)
    have U5 := hide ((((unhide U3).box (unhide hUw) (Nat.le_refl _) 0 (.int .i64 0)).box (unhide hUw) (Nat.le_refl _) 1 (.int .i64 0)).trans ((DQ.ukb D5 F5).mono fun j hj => Or.inl hj))
    have HD5 := hide ((D5.b F5).less fun j hj => Or.inl hj)
    have t50 := (F5.cell (p := ⟨w.heap.size, 0, none⟩) (by rw [hz6]; exact hrs)).trans t0
    have t51 := (F5.cell (p := ⟨w.heap.size, 1, none⟩) (by rw [hz6]; exact hrs)).trans t1
    clear rfz F5 HD3 U3 HR3 D5 hz6
    go_wp2
    refine bodyPost_ret (v := .tuple #[.agg #[.int .i64 0, .int .i64 0], .iface 147 (.pointer (some ⟨w5.heap.size, 0, none⟩))]) (by simp [results, Tryz.results75, go_sem, t50, t51]; try rfl) rfl ?_
    exact ⟨some 4, (oN, oA), S', w5.heap.size, rfl, unhide HT, unhide HD5, unhide U5⟩
  · simp only
    have N6 := hide (is_same (e 6) W3)
    clear IO
    go_wp2_with fail
    refine (unhide N6).mono ?_
    rintro ev w4 ⟨rfl, rfl⟩
    clear N6
    obtain ⟨r0, r1, rfz, rt⟩ := unhide HR3
    have f0 := rfz 0
    have f1 := rfz 1
    obtain ⟨t0, t1⟩ := set2_at r0 r1 (.int .i64 0) (.int .i64 0)
    have hrs := rt.lt
    have hrs2 : w.heap.size ≠ w4.heap.size := by omega
    have hz6 : ((w4.setCell ⟨w.heap.size, 0, none⟩ (.int .i64 0)).setCell ⟨w.heap.size, 1, none⟩ (.int .i64 0)).heap.size = w4.heap.size := by simp [World.setCell]
    have D5 := DQ.setU (DQ.setU (unhide HD3) (Or.inr rfl) 0 (.int .i64 0)) (Or.inr rfl) 1 (.int .i64 0)
    have F5 := ballo (Below.refl ((w4.setCell ⟨w.heap.size, 0, none⟩ (.int .i64 0)).setCell ⟨w.heap.size, 1, none⟩ (.int .i64 0)).heap.size ((w4.setCell ⟨w.heap.size, 0, none⟩ (.int .i64 0)).setCell ⟨w.heap.size, 1, none⟩ (.int .i64 0))) (.cells #[.iface 424 (.pointer (some (e 6)))] 258)
    have U5 := hide ((((unhide U3).box (unhide hUw) (Nat.le_refl _) 0 (.int .i64 0)).box (unhide hUw) (Nat.le_refl _) 1 (.int .i64 0)).trans ((DQ.ukb D5 F5).mono fun j hj => Or.inl hj))
    have HD5 := hide ((D5.b F5).less fun j hj => Or.inl hj)
    have t50 := (F5.cell (p := ⟨w.heap.size, 0, none⟩) (by rw [hz6]; exact hrs)).trans t0
    have t51 := (F5.cell (p := ⟨w.heap.size, 1, none⟩) (by rw [hz6]; exact hrs)).trans t1
    clear rfz F5 HD3 U3 HR3 D5 hz6
    go_wp2
    refine bodyPost_ret (v := .tuple #[.agg #[.int .i64 0, .int .i64 0], .iface 147 (.pointer (some ⟨w4.heap.size, 0, none⟩))]) (by simp [results, Tryz.results75, go_sem, t50, t51]; try rfl) rfl ?_
    exact ⟨some 6, (oN, oA), S', w4.heap.size, rfl, unhide HT, unhide HD5, unhide U5⟩
end
end Pl
end Go.Proofs.YtcbmfakjfoggaaaGreatDoor
