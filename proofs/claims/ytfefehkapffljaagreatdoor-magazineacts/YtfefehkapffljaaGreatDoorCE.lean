/- C6. -/
import Derived.Test.YtfefehkapffljaaGreatDoorCC
import Derived.Test.YtfefehkapffljaaGreatDoorCB
import Derived.Test.YtfefehkapffljaaGreatDoorCD
import Derived.BigRegion
namespace Go.Proofs.YtfefehkapffljaaGreatDoor
open Go.RowKit Go.Maps
namespace Sb
open Fr Bd Zn Dz
inductive RtS (N0 : Nat) (c z : Nat) (sz : Int) (m : Nat) (bs ts : List Nat) (ss : List Sl) (mn lw hi : Int) (k : Nat) (nb : Nat → Nat) (nd : Nat → Nd) (fr : Nat → List Nat) (x : Int) (u : Bool) (w : World) : Ending → World → Prop
 | no (r : Int) (w' : World) (hp : RR N0 w' c z sz m bs ts ss mn lw hi k nb nd fr) (hc : Chg R4 N0 w w')
   (hr : (r = 2 ∧ ¬ (0 ≤ x ∧ x < k)) ∨ ∃ x' : Nat, x = x' ∧ x' < k ∧ (bst m x' ss ss.length).1 = none ∧ (fr x').find? (fun i => tkC 0 mn u (nd i) == 2) = none ∧ r = if (fr x').any (fun i => tkC 0 mn u (nd i) == 1) then 7 else 5) :
   RtS N0 c z sz m bs ts ss mn lw hi k nb nd fr x u w (.returned (.tuple #[objV 0 0, .int .i64 r])) w'
 | old (x' j : Nat) (s : Sl) (w' : World) (hx : x = x') (hx' : x' < k) (hb : (bst m x' ss ss.length).1 = some j) (hs : ss[j]? = some s)
   (hp : RR N0 w' c z sz m bs ts (ss.set j { s with bm := s.bm ||| 2 ^ ff s.bm }) mn lw hi k nb nd fr) (hc : Chg R4 N0 w w') :
   RtS N0 c z sz m bs ts ss mn lw hi k nb nd fr x u w (.returned (.tuple #[objV s.nd (s.at_ * 64 + ff s.bm * sz), .int .i64 0])) w'
 | new (x' i q : Nat) (a : Int) (bs' ts' : List Nat) (nb' : Nat → Nat) (w' : World) (hx : x = x') (hx' : x' < k) (hb : (bst m x' ss ss.length).1 = none) (hf : (fr x').find? (fun i => tkC 0 mn u (nd i) == 2) = some i) (hik : i < k) (ha : a = tkA 0 (nd i)) (hq : Pos ss i a q)
   (hp : RR N0 w' c z sz m bs' ts' (Sb.ins ss q ⟨i, a, 1⟩) mn lw hi k nb' (up nd i (tkN 0 (nd i))) fr) (hc : Chg R4 N0 w w') :
   RtS N0 c z sz m bs ts ss mn lw hi k nb nd fr x u w (.returned (.tuple #[objV i (a * 64), .int .i64 0])) w'
theorem info4b : (Tryz.prog.info? 4).map (fun i => (i.zero, i.size, i.bytes)) = some (some (.bool false), 1, 1) := by kernel_rfl
theorem make_bools (m : Nat) (hm : m ≤ 64) : ∃ ZZ : Array Value, (∀ j, j < m → ZZ[j]? = some (.bool false)) ∧ ∀ W : World, (Instr.makeSlice 141 (.int .i64 (m : Int)) (.int .i64 (m : Int))).run Tryz.prog W = .ok (.slice (some ⟨W.heap.size, 0, none⟩) m m) (W.alloc (.cells ZZ 4)) := by
 obtain ⟨i0, h0, hz0, hz1, hz2⟩ := info_parts info4b
 refine ⟨madeCells (Value.bool false).cells m, fun j hj => ?_, fun W => ?_⟩
 · have h1 := toList_madeCells_one (.bool false) m
   have h2 : (madeCells #[Value.bool false] m).toList[j]? = some (.bool false) := by rw [h1]; simp [hj]
   rw [show (Value.bool false).cells = #[Value.bool false] from rfl]
   simpa using h2
 · have := run_makeSlice (P := Tryz.prog) W 141 4 i0 (.bool false) Tryz.underlying141 h0 hz0 .i64 .i64 m m (by omega) (by omega) (by rw [hz1]; simp; omega) (by rw [hz2]; omega) (by omega)
   rw [hz1] at this
   simpa using this
theorem RC.c2form {N0 : Nat} {w : World} {c z : Nat} {sz : Int} {m : Nat} {bs ts : List Nat} {ss : List Sl} (h : RC N0 w c z sz m bs ts ss) : (w.cell? ⟨c, 2, none⟩ = some (.slice none 0 0) ∧ ss.length = 0) ∨ ∃ g d, w.cell? ⟨c, 2, none⟩ = some (.slice (some ⟨g, 0, none⟩) ss.length d) ∧ g < w.heap.size ∧ ss.length ≤ d ∧ d ≤ maxLen ∧ ∀ i b, bs[i]? = some b → w.cell? ⟨g, i, none⟩ = some (ptr b) := by
 obtain ⟨p, d2, e2, o2⟩ := h.c2
 rw [h.len] at e2 o2
 rcases o2.2 with ⟨e, e0⟩ | ⟨g, cap, cur, e, _, hh, h1, h2, _⟩
 · rw [e] at e2
   exact Or.inl ⟨e2, e0⟩
 · rw [e] at e2 o2
   exact Or.inr ⟨g, cap, e2, (o2.lt g rfl).2, h1, h2, fun i b hb => (o2.cellAt i (by have := (List.getElem?_eq_some_iff.mp hb).1; rw [h.len] at this; omega)).trans (ptrl_at hb)⟩
theorem nodup_ins {l : List Nat} (h : l.Nodup) {k x : Nat} (hx : x ∉ l) : (Sb.ins l k x).Nodup := by
 unfold Sb.ins
 rw [List.nodup_append, List.nodup_cons]
 have hn := h
 rw [← List.take_append_drop k l, List.nodup_append] at hn
 refine ⟨hn.1, ⟨fun hm => hx (List.mem_of_mem_drop hm), hn.2.1⟩, fun y hy y' hy' e => ?_⟩
 subst e
 rcases List.mem_cons.mp hy' with e' | hm
 · rw [e'] at hy; exact hx (List.mem_of_mem_take hy)
 · exact hn.2.2 y hy y hm rfl
theorem news1p (w : World) (u : Value) (t : TypeId) : ∀ j v, ([u] : List Value)[j]? = some v → (w.alloc (.cells #[u] t)).cell? ((⟨w.heap.size, 0, none⟩ : Addr).add j) = some v := fun j v hj => by
 match j, hj with
 | 0, hj =>
   simp only [List.getElem?_cons_zero, Option.some.injEq] at hj
   subst hj
   rw [add_at]
   exact World.cell?_alloc_new w #[u] t 0
theorem pos_up {ss : List Sl} (hs : Sorted ss) {x : Nat} {a : Int} {q : Nat} (hq : q ≤ ss.length) (h1 : ∀ t s, t < q → ss[t]? = some s → lt s x a) (h2 : ∀ s, ss[q]? = some s → ¬ lt s x a) : Pos ss x a q := by
 refine ⟨hq, h1, fun t s ht es hl => ?_⟩
 rcases Nat.eq_or_lt_of_le ht with e | e
 · subst e
   exact h2 s es hl
 · have hql : q < ss.length := by have := (List.getElem?_eq_some_iff.mp es).1; omega
   have e0 : ss[q]? = some (ss[q]) := List.getElem?_eq_getElem hql
   have h3 := sorted_at hs e0 es e
   refine h2 _ e0 ?_
   unfold lt at *
   omega
set_option maxRecDepth 100000 in
set_option maxHeartbeats 16000000 in
theorem rtake_ok (N0 : Nat) (c z : Nat) (sz : Int) (m : Nat) (bs ts : List Nat) (ss : List Sl) (mn lw hi : Int) (k : Nat) (nb : Nat → Nat) (nd : Nat → Nd) (fr : Nat → List Nat) (x : Int) (u : Bool) (w : World) (h : RR N0 w c z sz m bs ts ss mn lw hi k nb nd fr) (hok : ∀ s ∈ ss, sok m s) (hso : Sorted ss) (hmm : 1 ≤ sz ∧ sz ≤ 64 ∧ (m : Int) = 64 / sz) (hn : ss.length ≤ 10000) (hN : N0 ≤ w.heap.size) (hk4 : k ≤ 20) (hfr : ∀ x, x < k → (fr x).length = k ∧ ∀ i ∈ fr x, i < k) :
   Calls Tryz.prog 25 #[ptr c, .int .i64 x, .bool u] w fun ev w' => RtS N0 c z sz m bs ts ss mn lw hi k nb nd fr x u w ev w' := by
 obtain ⟨i0, hi0, hz0, hz1, hz2⟩ := info_parts info140
 have HI := hide hi0
 have HZ := hide hz0
 have HZ1 := hide hz1
 have HZ2 := hide hz2
 clear hi0 hz0 hz1 hz2
 have F1 := ballo (Below.refl w.heap.size w) (.cells #[.int .i64 0, .int .i64 0] 42)
 have R1 := rx_new w
 have P1 := h.b F1
 have hcl := P1.hc.tg.lt
 obtain ⟨p, d, e2, _⟩ := P1.hc.c2
 rw [P1.hc.len] at e2
 have c0 := P1.hc.c0
 have HIN := hide (isnode_ok z mn lw hi k nb nd fr x _ P1.hz)
 have HP1 := hide P1
 have HF1 := hide F1
 have HR1 := hide R1
 have HOK := hide hok
 have HSOR := hide hso
 have HMM := hide hmm
 have HFR := hide hfr
 have hm64 : m ≤ 64 := by
   have : (64 : Int) / sz ≤ 64 := Int.ediv_le_self _ (by omega)
   omega
 have RN : Hid (∀ r w', RR N0 w' c z sz m bs ts ss mn lw hi k nb nd fr → Chg R4 N0 w w' → ((r = 2 ∧ ¬ (0 ≤ x ∧ x < k)) ∨ ∃ x' : Nat, x = x' ∧ x' < k ∧ (bst m x' ss ss.length).1 = none ∧ (fr x').find? (fun i => tkC 0 mn u (nd i) == 2) = none ∧ r = if (fr x').any (fun i => tkC 0 mn u (nd i) == 1) then 7 else 5) → RtS N0 c z sz m bs ts ss mn lw hi k nb nd fr x u w (.returned (.tuple #[objV 0 0, .int .i64 r])) w') := fun r w' h1 h2 h3 => .no r w' h1 h2 h3
 have RO : Hid (∀ x' j s w', x = (x' : Nat) → x' < k → (bst m x' ss ss.length).1 = some j → ss[j]? = some s → RR N0 w' c z sz m bs ts (ss.set j { s with bm := s.bm ||| 2 ^ ff s.bm }) mn lw hi k nb nd fr → Chg R4 N0 w w' → RtS N0 c z sz m bs ts ss mn lw hi k nb nd fr x u w (.returned (.tuple #[objV s.nd (s.at_ * 64 + ff s.bm * sz), .int .i64 0])) w') := fun x' j s w' h1 h2 h3 h4 h5 h6 => .old x' j s w' h1 h2 h3 h4 h5 h6
 have RW : Hid (∀ (x' i q : Nat) (a : Int) (bs' ts' : List Nat) (nb' : Nat → Nat) w', x = (x' : Nat) → x' < k → (bst m x' ss ss.length).1 = none → (fr x').find? (fun i => tkC 0 mn u (nd i) == 2) = some i → i < k → a = tkA 0 (nd i) → Pos ss i a q → RR N0 w' c z sz m bs' ts' (Sb.ins ss q ⟨i, a, 1⟩) mn lw hi k nb' (up nd i (tkN 0 (nd i))) fr → Chg R4 N0 w w' → RtS N0 c z sz m bs ts ss mn lw hi k nb nd fr x u w (.returned (.tuple #[objV i (a * 64), .int .i64 0])) w') := fun x' i q a bs' ts' nb' w' h1 h2 h3 h4 h5 h6 h7 h8 h9 => .new x' i q a bs' ts' nb' w' h1 h2 h3 h4 h5 h6 h7 h8 h9
 clear h F1 R1 P1 hok hmm hfr hso
 generalize RtS N0 c z sz m bs ts ss mn lw hi k nb nd fr x u w = TR at *
 unfold ptr objV at *
 go_enter Tryz.func25, Tryz.ntmps25
 go_upto_region 1 with (fail)
 generalize hW : w.alloc (.cells #[.int .i64 0, .int .i64 0] 42) = W at *
 go_wp2_with fail
 refine (unhide HIN).mono ?_
 rintro ev w1 ⟨rfl, b1⟩
 have HF2 := hide (btr (unhide HF1) b1)
 have HP2 := hide ((unhide HP1).b b1)
 have HR2 := hide ((unhide HR1).b b1)
 have hcl1 : c < w1.heap.size := by have := b1.size; omega
 have e21 := (b1.cell (p := ⟨c, 2, none⟩) hcl).trans e2
 have c01 := (b1.cell (p := ⟨c, 0, none⟩) hcl).trans c0
 clear HIN HF1 HP1 HR1 b1 e2 c0 hcl hW
 by_cases hx : 0 ≤ x ∧ x < k
 · rw [show decide (0 ≤ x ∧ x < k) = true by simpa using hx]
   obtain ⟨x', rfl⟩ := Int.eq_ofNat_of_zero_le hx.1
   have hxk : x' < k := by omega
   clear hx
   go_wp2_with fail
   go_loopw [9, 10, 11] (fun s9 s10 s wr => ∃ i : Nat, s = .int .i64 i ∧ i ≤ ss.length ∧ s9 = bestV bs (bst m x' ss i).1 ∧ s10 = .int .i64 (bst m x' ss i).2 ∧ Hid (Below w1.heap.size w1 wr)) (fun _ _ s _ => ss.length - (RowKit.intOf s).toNat)
   case atStart => exact ⟨0, rfl, Nat.zero_le _, rfl, rfl, Below.refl _ _⟩
   case round =>
     obtain ⟨i, rfl, hile, rfl, rfl, hB⟩ := hrel
     have e2r := ((unhide hB).cell (p := ⟨c, 2, none⟩) hcl1).trans e21
     have hi0 : (0 : Int) ≤ i := by omega
     by_cases hil : i < ss.length
     · have hi1 : (i : Int) < ss.length := by omega
       have HPr := hide ((unhide HP2).b (unhide hB))
       obtain ⟨b, t, s, eb, et, es, hS⟩ := (unhide HPr).hc.slab hil
       obtain ⟨g, d', e2', hg, hrow⟩ := (unhide HPr).hc.row (by omega)
       rw [e2r] at e2'
       simp only [Option.some.injEq, Value.slice.injEq, true_and] at e2'
       obtain ⟨rfl, rfl⟩ := e2'
       have rb := hrow i b eb
       have HMC := hide (many_ok b t m s wr hS hm64)
       have HSr := hide hS
       have hnx : bst m x' ss (i + 1) = if s.nd = x' ∧ pop s.bm m < m ∧ (bst m x' ss i).2 < (pop s.bm m : Int) then (some i, (pop s.bm m : Int)) else bst m x' ss i := by
         rw [bst, getD_at es]
       have hbv := bst_hi m x' ss i
       have hbi : bestV bs (some i) = .pointer (some ⟨b, 0, none⟩) := by simp only [bestV, getD_at eb]; rfl
       have hpl := pop_le s.bm m
       have HX := hide hnx
       clear hnx hrow hS eb es et HPr
       have sb0 : ∀ w2, Below wr.heap.size wr w2 → w2.cell? ⟨b, 0, none⟩ = some (.int .i64 s.nd) ∧ w2.cell? ⟨b, 3, none⟩ = some (.slice (some ⟨t, 0, none⟩) m m) ∧ w2.cell? ⟨g, i, none⟩ = some (ptr b) ∧ w2.cell? ⟨c, 2, none⟩ = some (.slice (some ⟨g, 0, none⟩) ss.length d) := fun w2 hb => ⟨((unhide HSr).b hb).c0, ((unhide HSr).b hb).c3, (hb.cell (p := ⟨g, i, none⟩) hg).trans rb, (hb.cell (p := ⟨c, 2, none⟩) (Nat.lt_of_lt_of_le hcl1 (unhide hB).size)).trans e2r⟩
       have HSB := hide sb0
       clear sb0
       generalize s.bm = bm at *
       generalize pop bm m = n1 at *
       generalize hBB : bst m x' ss i = B1 at *
       obtain ⟨o1, v1⟩ := B1
       simp only at hbv
       generalize hbo : bestV bs o1 = V1 at *
       unfold ptr at *
       have HBI := hide hbi
       have HBO := hide hbo
       have HB := hide hBB
       clear hBB hbo hbi
       go_wp2_with fail
       refine (unhide HMC).mono ?_
       rintro ev w2 ⟨rfl, b2⟩
       obtain ⟨sc0, sc3, scg, sc2⟩ := (unhide HSB) w2 b2
       have hB2 := hide (btr (unhide hB) b2)
       clear HMC b2 HSB HSr rb e2r hB
       by_cases a1 : s.nd = x'
       · have d1 : ((s.nd : Int) == (x' : Int)) = true := by simp; omega
         by_cases a2 : n1 < m
         · have d2 : decide ((n1 : Int) < (m : Int)) = true := by simp; omega
           by_cases a3 : v1 < (n1 : Int)
           · have d3 : decide ((n1 : Int) > v1) = true := by simp; omega
             have HE : Hid (bst m x' ss (i + 1) = (some i, (n1 : Int))) := by rw [unhide HX, if_pos ⟨a1, a2, a3⟩]; exact rfl
             clear a1
             go_wp2_with fail
             go_roundw
             case rel => exact ⟨i + 1, by go_num, by omega, by rw [unhide HE]; exact (unhide HBI).symm, by rw [unhide HE], hB2⟩
             case measure => simp [RowKit.intOf]; omega
           · have d3 : decide ((n1 : Int) > v1) = false := by simp; omega
             have HE : Hid (bst m x' ss (i + 1) = (o1, v1)) := by rw [unhide HX, if_neg (fun h => a3 h.2.2)]; exact rfl
             clear a1
             go_wp2_with fail
             go_roundw
             case rel => exact ⟨i + 1, by go_num, by omega, by rw [unhide HE]; exact (unhide HBO).symm, by rw [unhide HE], hB2⟩
             case measure => simp [RowKit.intOf]; omega
         · have d2 : decide ((n1 : Int) < (m : Int)) = false := by simp; omega
           have HE : Hid (bst m x' ss (i + 1) = (o1, v1)) := by rw [unhide HX, if_neg (fun h => a2 h.2.1)]; exact rfl
           clear a1
           go_wp2_with fail
           go_roundw
           case rel => exact ⟨i + 1, by go_num, by omega, by rw [unhide HE]; exact (unhide HBO).symm, by rw [unhide HE], hB2⟩
           case measure => simp [RowKit.intOf]; omega
       · have d1 : ((s.nd : Int) == (x' : Int)) = false := by simp; omega
         have HE : Hid (bst m x' ss (i + 1) = (o1, v1)) := by rw [unhide HX, if_neg (fun h => a1 h.1)]; exact rfl
         clear a1
         go_wp2_with fail
         go_roundw
         case rel => exact ⟨i + 1, by go_num, by omega, by rw [unhide HE]; exact (unhide HBO).symm, by rw [unhide HE], hB2⟩
         case measure => simp [RowKit.intOf]; omega
     · obtain rfl : i = ss.length := by omega
       have hnl : ¬ ((ss.length : Int) < (ss.length : Int)) := by omega
       have HP3 := hide ((unhide HP2).b (unhide hB))
       have HR3 := hide ((unhide HR2).b (unhide hB))
       have HF3 := hide (btr (unhide HF2) (unhide hB))
       clear HP2 HR2 HF2 hB e21 c01
       cases hb : (bst m x' ss ss.length).1 with
       | some j =>
         obtain ⟨hj, hnd, hpop⟩ := bst_some hb
         obtain ⟨b, t, s, eb, et, es, hS⟩ := (unhide HP3).hc.slab hj
         rw [getD_at es] at hpop
         have hbv : bestV bs (some j) = .pointer (some ⟨b, 0, none⟩) := by simp only [bestV, getD_at eb]; rfl
         have hso := (unhide HOK) s (List.mem_of_getElem? es)
         obtain ⟨hf1, hf2, hf3⟩ := ff_spec hso.2.2.1 hm64 hpop
         have HRES : Hid (∀ w', RR N0 w' c z sz m bs ts (ss.set j { s with bm := s.bm ||| 2 ^ ff s.bm }) mn lw hi k nb nd fr → Chg R4 N0 w w' → TR (.returned (.tuple #[.agg #[.int .i64 s.nd, .int .i64 (s.at_ * 64 + ff s.bm * sz)], .int .i64 0])) w') := fun w' h1 h2 => (unhide RO) x' j s w' rfl hxk hb es h1 h2
         rw [hbv]
         have HEB := hide eb
         have HET := hide et
         have HES := hide es
         have HSO := hide hso
         have HSl := hide hS
         have HF1 := hide hf1
         have HF2 := hide hf2
         have HF3' := hide hf3
         have w30 : Hid (Below wr.heap.size wr wr) := Below.refl _ _
         clear hbv hb RO RW RN hnd hpop hso hf1 hf2 hf3 eb et es hS
         go_wp2_with fail
         go_loopw [17] (fun s17 wr' => ∃ q : Nat, s17 = .int .i64 q ∧ q ≤ ff s.bm ∧ Hid (Below wr.heap.size wr wr')) (fun s17 _ => ff s.bm - (RowKit.intOf s17).toNat)
         case atStart => exact ⟨0, rfl, Nat.zero_le _, w30⟩
         case round =>
           clear w30
           obtain ⟨q, rfl, hq, hB⟩ := hrel
           have hq0 : (0 : Int) ≤ q := by omega
           have hqm : q < m := by have := unhide HF1; omega
           have hqi : (q : Int) < m := by omega
           have hSq := (unhide HSl).b (unhide hB)
           have s3 := hSq.c3
           have fr := hSq.row q hqm
           by_cases hqf : q < ff s.bm
           · rw [(unhide HF3') q hqf] at fr
             clear hSq
             go_wp2_with fail
             go_roundw
             case rel => exact ⟨q + 1, by go_num, by omega, hB⟩
             case measure => simp [RowKit.intOf]; omega
           · obtain rfl : q = ff s.bm := by omega
             rw [unhide HF2] at fr
             have ffz := hSq.fz (ff s.bm)
             have HP4 := hide ((unhide HP3).b (unhide hB))
             have HR4 := hide ((unhide HR3).b (unhide hB))
             have HF4 := hide (btr (unhide HF3) (unhide hB))
             have hmu := mul_in (unhide HMM).1 (unhide HMM).2.2 (unhide HF1)
             have HRT := hide ((unhide HP4).hc.turn (unhide HEB) (unhide HET) (unhide HES) (k := ff s.bm) (s.bm ||| 2 ^ ff s.bm) true (unhide HF1) (by rw [tb_set]; simp) (fun j hj => by rw [tb_set]; simp [Ne.symm hj]))
             have hsz := (unhide HMM).1
             have hat0 := (unhide HSO).1
             have hat1 := (unhide HSO).2.1
             clear hSq HP3 HR3 HF3 hB HF2 HF3'
             generalize hfi : ff s.bm = fi at *
             have w1' : IntKind.i64.wrap (s.at_ * 64) = s.at_ * 64 := IntWalk.i64_in _ (by omega)
             have w2' : IntKind.i64.wrap ((fi : Int) * sz) = (fi : Int) * sz := IntWalk.i64_in _ (by omega)
             have w3' : IntKind.i64.wrap (s.at_ * 64 + (fi : Int) * sz) = s.at_ * 64 + (fi : Int) * sz := IntWalk.i64_in _ (by omega)
             go_upto_region 29 with (fail)
             have RR5 := (unhide HP4).turnC ((unhide HRT).2.mono (by decide) (Nat.le_refl _)) (unhide HRT).1
             have CH5 := hide (((Chg.below (unhide HF4)).trans ((unhide HRT).2.mono (by decide) (Nat.le_refl _)) : Chg R4 N0 w _))
             have RX5 := (unhide HR4).c (unhide HRT).2 (by decide)
             have S5 := RR5.hc.sl j b t _ (unhide HEB) (unhide HET) (by rw [List.getElem?_set_self (by exact hj)])
             have HRR5 := hide RR5
             have HRX5 := hide RX5
             have k1 := RR5.hc.c1
             have k0 := S5.c0
             have ka := S5.c1
             have r0 := RX5.c0
             have r1 := RX5.c1
             have f0 := RX5.fz 0
             have f1 := RX5.fz 1
             clear RR5 RX5 S5 HRT HP4 HR4 HF4 s3 fr ffz HSl
             generalize wr.setCell ⟨t, fi, none⟩ (.bool true) = W5 at *
             simp only at k0 ka
             obtain ⟨t0, t1⟩ := set2_at (W := W5) r0 r1 (.int .i64 (s.nd : Int)) (.int .i64 (s.at_ * 64 + (fi : Int) * sz))
             go_region
             go_wp2
             refine bodyPost_ret (v := .tuple #[.agg #[.int .i64 s.nd, .int .i64 (s.at_ * 64 + (fi : Int) * sz)], .int .i64 0]) (by simp [results, Tryz.results25, go_sem, t0, t1]; try rfl) rfl ?_
             exact (unhide HRES) _ (((unhide HRR5).chg ((Chg.set (unhide HRX5).tg (Nat.zero_le _) 0 (.int .i64 (s.nd : Int))).trans (Chg.set ((unhide HRX5).tg.set _ _) (Nat.zero_le _) 1 (.int .i64 (s.at_ * 64 + (fi : Int) * sz)))) (by decide)).b (drw _)) (((unhide CH5).fresh (Nat.le_refl _) 0 _).fresh (Nat.le_refl _) 1 _).drew
       | none =>
         have HZT := rztake_at z mn lw hi k nb nd fr x' 0 u wr (unhide HP3).hz hxk (by omega) (by omega) ((unhide HFR) x' hxk).1 ((unhide HFR) x' hxk).2 hk4
         have c0r := (unhide HP3).hc.c0
         unfold plV ptr at HZT c0r
         have HZT := hide HZT
         have HB := hide hb
         clear RO hb
         rw [show bestV bs none = .pointer none from rfl]
         go_wp2_with fail
         refine (unhide HZT).mono ?_
         rintro ev w4 (⟨hfd, rfl, b4⟩ | ⟨i, hfd, hik, rfl, cn, gn, hcn, rz4, ⟨tgn, cpn, hat⟩, k4⟩)
         · obtain ⟨rr, hrr⟩ : ∃ rr : Int, rr = if (fr x').any (fun i => tkC 0 mn u (nd i) == 1) then 7 else 5 := ⟨_, rfl⟩
           have hr7 : rr = 7 ∨ rr = 5 := by rw [hrr]; split <;> simp
           rw [← hrr]
           have d1 : decide (rr > 0) = true := by simp; omega
           have d2 : decide ((0 : Int) < rr) = true := by simp; omega
           have G5 := ballo b4 (.cells #[.int .i64 0, .int .i64 0, .int .i64 0] 73)
           have R5 := (unhide HR3).b G5
           have P5 := (unhide HP3).b G5
           have RES := hide (fun w' (h1 : RR N0 w' c z sz m bs ts ss mn lw hi k nb nd fr) (h2 : Chg R4 N0 w w') => (unhide RN) rr w' h1 h2 (Or.inr ⟨x', rfl, hxk, unhide HB, hfd, hrr⟩))
           have HR5 := hide R5
           have HP5 := hide P5
           have HF5 := hide (btr (unhide HF3) G5)
           clear HZT hfd hrr HP3 HR3 HF3 RN RW b4 G5 P5 R5
           go_upto_region 15 with (fail)
           generalize w4.alloc (.cells #[.int .i64 0, .int .i64 0, .int .i64 0] 73) = W5 at *
           obtain ⟨r0, r1, rfz, _⟩ := unhide HR5
           have f0 := rfz 0
           have f1 := rfz 1
           clear rfz
           obtain ⟨t0, t1⟩ := set2_at r0 r1 (.int .i64 0) (.int .i64 0)
           go_wp2
           refine bodyPost_ret (v := .tuple #[.agg #[.int .i64 0, .int .i64 0], .int .i64 rr]) (by simp [results, Tryz.results25, go_sem, t0, t1]; try rfl) rfl ?_
           exact (unhide RES) _ ((unhide HP5).chg ((Chg.set (unhide HR5).tg (Nat.zero_le _) 0 (.int .i64 0)).trans (Chg.set ((unhide HR5).tg.set _ _) (Nat.zero_le _) 1 (.int .i64 0))) (by decide)) (((Chg.below (unhide HF5)).fresh (Nat.le_refl _) 0 _).fresh (Nat.le_refl _) 1 _)
         · have ht : tkC 0 mn u (nd i) = 2 := by simpa using List.find?_some hfd
           have hokd := (unhide HP3).hz.ok i hik
           have hpg := tk_page hokd ht
           have hC4 : Chg [some 137] N0 wr w4 := Chg.one k4 tgn ((unhide HP3).r gn cpn hat)
           have HC4 := hide (hC4.mono (by decide : ∀ t ∈ [some 137], t ∈ R4) (Nat.le_refl _))
           have hRR4 : RR N0 w4 c z sz m bs ts ss mn lw hi k (up nb i cn) (up nd i (tkN 0 (nd i))) fr := ⟨rz4, (unhide HP3).hc.same (hC4.toSame (by decide)), fun j hj => by
             by_cases e : j = i
             · subst e; rw [up_at]; have := (unhide HF3).size; omega
             · rw [up_ne _ _ e]; exact (unhide HP3).g j hj, fun g cp e => (unhide HP3).r g cp ((World.cell?_of_block (w := wr) (a := ⟨z, 5, none⟩) (hC4.same (unhide HP3).hz.tg (by decide))).symm.trans e)⟩
           have hR4 := (unhide HR3).c hC4 (by decide)
           generalize hat' : tkA 0 (nd i) = at' at *
           have HRES0 : Hid (∀ q bs' ts' w', Pos ss i at' q → RR N0 w' c z sz m bs' ts' (Sb.ins ss q ⟨i, at', 1⟩) mn lw hi k (up nb i cn) (up nd i (tkN 0 (nd i))) fr → Chg R4 N0 w w' → TR (.returned (.tuple #[.agg #[.int .i64 i, .int .i64 (at' * 64)], .int .i64 0])) w') := fun q bs' ts' w' h1 h2 h3 => (unhide RW) x' i q at' bs' ts' _ w' rfl hxk (unhide HB) hfd hik hat'.symm h1 h2 h3
           generalize up nb i cn = nb' at *
           generalize up nd i (tkN 0 (nd i)) = nd' at *
           have hat0 := hpg.1
           have hat1 := hpg.2.1
           have G5 := ballo (Below.refl w4.heap.size w4) (.cells #[.int .i64 (i : Int), .int .i64 at', .int .i64 0] 73)
           have HRR5 := hide (hRR4.b G5)
           have HR5 := hide (hR4.b G5)
           have HC5 := hide (((Chg.below (unhide HF3)).trans (unhide HC4)).trans (Chg.below G5))
           have q := World.cell?_alloc_new w4 #[.int .i64 (i : Int), .int .i64 at', .int .i64 0] 73
           have q0 := q 0
           have q1 := q 1
           have q2 := q 2
           simp only [List.getElem?_toArray, List.getElem?_cons_zero, List.getElem?_cons_succ] at q0 q1 q2
           have hsz4 : w4.heap.size < (w4.alloc (.cells #[.int .i64 (i : Int), .int .i64 at', .int .i64 0] 73)).heap.size := by simp
           have hi20 : i < 1000 := by omega
           clear HZT hfd HP3 HR3 HF3 RN RW hpg hokd ht hC4 hRR4 hR4 HC4 rz4 k4 tgn hat hcn G5 q hat' c0r
           go_upto_region 17 with (fail)
           generalize w4.alloc (.cells #[.int .i64 (i : Int), .int .i64 at', .int .i64 0] 73) = W4 at *
           obtain ⟨ZZ, hZZ, hmk⟩ := make_bools m hm64
           have hq64 : Int.tdiv 64 sz = (m : Int) := (Int.tdiv_eq_ediv_of_nonneg (by omega)).trans (unhide HMM).2.2.symm
           have hwm : IntKind.i64.wrap (m : Int) = (m : Int) := IntWalk.i64_in _ (by omega)
           have hwm2 : IntKind.i64.wrap (Int.tdiv 64 sz) = (m : Int) := by rw [hq64]; exact hwm
           have hwm3 : wrap64 (Int.tdiv 64 sz) = (m : Int) := (IntWalk.i64_left _).symm.trans hwm2
           have hszn : (sz == 0) = false := by have := (unhide HMM).1; simp; omega
           have hszn2 : ¬ sz = 0 := by have := (unhide HMM).1; omega
           have c1 := (unhide HRR5).hc.c1
           have p0 := q0
           have p1 := q1
           have p2 := q2
           have p0a := fun o => ((ballo (Below.refl W4.heap.size W4) o).cell (p := ⟨w4.heap.size, 0, none⟩) hsz4).trans p0
           go_region
           clear hq64 hwm hwm2 hwm3 hszn hszn2 p0a q0 q1 q2 hmk
           have e5 : (W4.alloc (.cells ZZ 4)).heap.size = W4.heap.size + 1 := by simp
           have n5 := World.cell?_alloc_new (W4.alloc (.cells ZZ 4)) #[.int .i64 (i : Int), .int .i64 at', .int .i64 0, .slice (some ⟨W4.heap.size, 0, none⟩) m m] 143
           have t5 := tag_new (W4.alloc (.cells ZZ 4)) #[.int .i64 (i : Int), .int .i64 at', .int .i64 0, .slice (some ⟨W4.heap.size, 0, none⟩) m m] 143
           rw [e5] at n5 t5
           have g5 := ballo (Below.refl (W4.alloc (.cells ZZ 4)).heap.size (W4.alloc (.cells ZZ 4))) (.cells #[.int .i64 (i : Int), .int .i64 at', .int .i64 0, .slice (some ⟨W4.heap.size, 0, none⟩) m m] 143)
           have B6 : Below W4.heap.size W4 ((W4.alloc (.cells ZZ 4)).alloc (.cells #[.int .i64 (i : Int), .int .i64 at', .int .i64 0, .slice (some ⟨W4.heap.size, 0, none⟩) m m] 143)).drew := (ballo (ballo (Below.refl _ _) _) _).drew
           have S6 : RSl ((W4.alloc (.cells ZZ 4)).alloc (.cells #[.int .i64 (i : Int), .int .i64 at', .int .i64 0, .slice (some ⟨W4.heap.size, 0, none⟩) m m] 143)).drew (W4.heap.size + 1) W4.heap.size m ⟨i, at', 0⟩ := by
             refine ⟨n5 0, n5 1, n5 2, n5 3, fun j hj => ?_, t5, (tag_new W4 ZZ 4).b g5.drew, fun o => ?_⟩
             · have h1 : ((W4.alloc (.cells ZZ 4)).alloc (.cells #[.int .i64 (i : Int), .int .i64 at', .int .i64 0, .slice (some ⟨W4.heap.size, 0, none⟩) m m] 143)).cell? ⟨W4.heap.size, j, none⟩ = (W4.alloc (.cells ZZ 4)).cell? ⟨W4.heap.size, j, none⟩ := g5.cell (p := ⟨W4.heap.size, j, none⟩) (by rw [e5]; simp)
               refine h1.trans ((World.cell?_alloc_new W4 ZZ 4 j).trans ((hZZ j hj).trans ?_))
               simp
             · have h1 : ((W4.alloc (.cells ZZ 4)).alloc (.cells #[.int .i64 (i : Int), .int .i64 at', .int .i64 0, .slice (some ⟨W4.heap.size, 0, none⟩) m m] 143)).frozen? ⟨W4.heap.size, o, none⟩ = (W4.alloc (.cells ZZ 4)).frozen? ⟨W4.heap.size, o, none⟩ := g5.frozen (p := ⟨W4.heap.size, o, none⟩) (by rw [e5]; simp)
               exact h1.trans (World.frozen?_alloc_at _ _ W4.heap.size o rfl)
           have HB6 := hide B6
           have HS6 := hide S6
           clear n5 t5 g5 e5 B6 S6 hZZ
           generalize ((W4.alloc (.cells ZZ 4)).alloc (.cells #[.int .i64 (i : Int), .int .i64 at', .int .i64 0, .slice (some ⟨W4.heap.size, 0, none⟩) m m] 143)).drew = W6 at *
           have HRR6 := hide ((unhide HRR5).b (unhide HB6))
           have HR6 := hide ((unhide HR5).b (unhide HB6))
           have HC6 := hide ((unhide HC5).trans (Chg.below (unhide HB6)))
           have P0 := ((unhide HB6).cell (p := ⟨w4.heap.size, 0, none⟩) hsz4).trans p0
           have P1 := ((unhide HB6).cell (p := ⟨w4.heap.size, 1, none⟩) hsz4).trans p1
           have hsz6 : w4.heap.size < W6.heap.size := Nat.lt_of_lt_of_le hsz4 (unhide HB6).size
           have hW4 : w.heap.size ≤ W4.heap.size := (unhide HC5).size
           have hTN : Hid (W4.heap.size ∉ ts) := fun (hm : W4.heap.size ∈ ts) => by
             obtain ⟨a, ha⟩ := List.mem_iff_getElem?.mp hm
             have hal : a < ss.length := by rw [← (unhide HRR5).hc.lt]; exact (List.getElem?_eq_some_iff.mp ha).1
             obtain ⟨b', t', s', _, et', _, hS'⟩ := (unhide HRR5).hc.slab hal
             rw [ha] at et'
             cases et'
             exact absurd hS'.tt.lt (by omega)
           clear p0 p1 p2 c1 HRR5 HR5 HC5 HB6
           go_wp2_with fail
           go_loopw [15] (fun s15 wr => ∃ q : Nat, s15 = .int .i64 q ∧ q ≤ ss.length ∧ Hid (Below W6.heap.size W6 wr) ∧ Hid (∀ t s, t < q → ss[t]? = some s → lt s i at')) (fun s15 _ => ss.length - (RowKit.intOf s15).toNat)
           case atStart => exact ⟨0, rfl, Nat.zero_le _, Below.refl _ _, fun t s ht => by omega⟩
           case round =>
             obtain ⟨q, rfl, hq, hB, hL⟩ := hrel
             have hq0 : (0 : Int) ≤ q := by omega
             have pp0 := ((unhide hB).cell (p := ⟨w4.heap.size, 0, none⟩) hsz6).trans P0
             have pp1 := ((unhide hB).cell (p := ⟨w4.heap.size, 1, none⟩) hsz6).trans P1
             have HRRq := hide ((unhide HRR6).b (unhide hB))
             have hmq := unhide HRRq
             have FIN0 : Hid (Pos ss i at' q → ∀ v w7, Below wr.heap.size wr w7 → w7.ownsRow wr.heap.size 140 1 v (ss.length + 1) (ptrl (Sb.ins bs q (W4.heap.size + 1))) → RR N0 (w7.setCell ⟨c, 2, none⟩ v) c z sz m (Sb.ins bs q (W4.heap.size + 1)) (Sb.ins ts q W4.heap.size) (Sb.ins ss q ⟨i, at', 0⟩) mn lw hi k nb' nd' fr ∧ Chg R4 N0 w (w7.setCell ⟨c, 2, none⟩ v)) := fun hp v w7 hb7 ho7 => by
               have hC := (unhide HRRq).hc
               obtain ⟨r1, r2⟩ := hC.row_new (w' := w7) hb7 (bs' := Sb.ins bs q (W4.heap.size + 1)) (ts' := Sb.ins ts q W4.heap.size) (ss' := Sb.ins ss q ⟨i, at', 0⟩) (own_slice ho7) (by rw [ins_length, hC.len]) ho7 (by have := (unhide HC6).size; have := (unhide hB).size; omega) (by rw [ins_length, ins_length, hC.len]) (by rw [ins_length, ins_length, hC.lt]) (nodup_ins hC.tn (unhide hTN)) (fun t ht => by
                 rcases ins_mem.mp ht with rfl | h'
                 · omega
                 · exact hC.gt t h') (fun j b t u h1 h2 h3 => by
                 have e1 := hC.len
                 have e2 := hC.lt
                 rw [ins_get _ (by omega)] at h1 h2 h3
                 by_cases j1 : j < q
                 · rw [if_pos j1] at h1 h2 h3
                   exact (hC.sl j b t u h1 h2 h3).b hb7
                 · rw [if_neg j1] at h1 h2 h3
                   by_cases j2 : j = q
                   · rw [if_pos j2] at h1 h2 h3
                     cases h1; cases h2; cases h3
                     exact ((unhide HS6).b (unhide hB)).b hb7
                   · rw [if_neg j2] at h1 h2 h3
                     exact (hC.sl (j - 1) b t u h1 h2 h3).b hb7)
               exact ⟨(unhide HRRq).turnC (r2.mono (by decide) (Nat.le_refl _)) r1, ((unhide HC6).trans (Chg.below (unhide hB))).trans (r2.mono (by decide) (Nat.le_refl _))⟩
             have hclq := hmq.hc.tg.lt
             have hcf := hmq.hc.cf 2
             have hlen := hmq.hc.len
             have hpe : ptrl (Sb.ins bs q (W4.heap.size + 1)) = ptrl (bs.take q) ++ [ptr (W4.heap.size + 1)] ++ ptrl (bs.drop q) := by
               unfold Sb.ins ptrl
               simp
             have HPE := hide hpe
             have HT : Hid ((ptrl (bs.take q)).length = q * 1) := by show _ = _; rw [ptrl_len, List.length_take]; omega
             have HD : Hid ((ptrl (bs.drop q)).length = (ss.length - q) * 1) := by show _ = _; rw [ptrl_len, List.length_drop]; omega
             have hC2 := hmq.hc.c2form
             have HSLB := hide (fun (h : q < ss.length) => hmq.hc.slab h)
             clear hmq hpe
             rcases hC2 with ⟨e4, hn0⟩ | ⟨g4, d4, e4, hg4, hd4, hd5, cg4⟩
             · obtain rfl : q = 0 := by omega
               have HPOS : Hid (Pos ss i at' 0) := pos_up (unhide HSOR) hq (unhide hL) (fun s hs => by have := (List.getElem?_eq_some_iff.mp hs).1; omega)
               have HPE0 : Hid (ptrl (Sb.ins bs 0 (W4.heap.size + 1)) = [ptr (W4.heap.size + 1)]) := by show _ = _; rw [List.eq_nil_of_length_eq_zero (show bs.length = 0 by omega)]; rfl
               have HN0 := hide hn0
               clear hn0
               go_wp2_with fail
               go_quiet (fail)
               have tok1 : True := trivial
               go_wp2_with (first
                 | (at_builtin; have _t := tok1; refine wpList_append_own_none rfl (.tmp 169) (.tmp 175) 64 rfl wr.heap.size 140 i0 1 Tryz.underlying64 (unhide HI) _ 0 [] rfl (World.ownsRow_nil _ _ _ _) rfl ?_; clear tok1; have O5 : Hid ((wr.drewN nq).ownsRow wr.heap.size 140 1 (.slice none 0 0) 0 []) := World.ownsRow_nil _ _ _ _; have B5 : Hid (Below wr.heap.size wr (wr.drewN nq)) := bdN (Below.refl _ _) _; have tok2 : True := trivial)
                 | (at_builtin; have _t := tok2; refine wpList_append_own _ rfl (.tmp 177) (.tmp 179) 64 rfl wr.heap.size 140 i0 (.pointer none) 1 8 Tryz.underlying64 (unhide HI) (unhide HZ) (unhide HZ1) (unhide HZ2) rfl (by decide) _ _ _ rfl ((unhide O5).alloc _) ⟨wr.heap.size, 0, none⟩ 1 1 [.pointer (some ⟨W4.heap.size + 1, 0, none⟩)] rfl rfl (news1p _ _ _) (by intro u hu; simp at hu; subst hu; rfl) (by unfold maxLen; omega) (by omega) (by have := (unhide B5).size; simp) ?_; intro v6 w6 o6 g6 n6; obtain ⟨p6, d6, rfl⟩ := own_slice o6; have b6 : Below wr.heap.size wr w6 := ((unhide B5).alloc (unhide B5).size _).grown g6 (by have := (unhide B5).size; simp) (own_row (unhide O5)); have a66 := (b6.cell (p := ⟨c, 2, none⟩) hclq).trans e4; have B6 := hide b6; have O6 := hide o6; clear o6 g6 n6 b6 tok2; have tok3 : True := trivial)
                 | (at_builtin; have _t := tok3; refine wpList_append_own_none rfl (.tmp 182) (.tmp 188) 64 rfl wr.heap.size 140 i0 1 Tryz.underlying64 (unhide HI) _ _ _ rfl (unhide O6) rfl ?_; clear tok3; have f66 := ((unhide B6).frozen (p := ⟨c, 2, none⟩) hclq).trans hcf))
               have FIN := hide ((unhide FIN0) (unhide HPOS) _ w6 (unhide B6) (by rw [unhide HPE0, unhide HN0]; exact unhide O6))
               have HRR8 := hide (unhide FIN).1
               have HC8 := hide (unhide FIN).2
               have HR8 : Hid (Rx (w6.setCell ⟨c, 2, none⟩ (.slice p6 (0 + 1) d6)) w.heap.size (.int .i64 0) (.int .i64 0)) := (((unhide HR6).b (unhide hB)).b (unhide B6)).c (Chg.set (N := 0) ((unhide HRRq).b (unhide B6)).hc.tg (Nat.zero_le _) 2 _) (by decide)
               have ebq : Hid ((Sb.ins bs 0 (W4.heap.size + 1))[0]? = some (W4.heap.size + 1)) := by show _ = _; rw [ins_get _ (by omega), if_neg (by omega), if_pos rfl]
               have etq : Hid ((Sb.ins ts 0 W4.heap.size)[0]? = some W4.heap.size) := by show _ = _; rw [ins_get _ (by have := (unhide HRRq).hc.lt; omega), if_neg (by omega), if_pos rfl]
               have esq : Hid ((Sb.ins ss 0 ⟨i, at', 0⟩)[0]? = some ⟨i, at', 0⟩) := by show _ = _; rw [ins_get _ (by omega), if_neg (by omega), if_pos rfl]
               clear FIN FIN0 HR6 HRRq HRR6 HS6 HC6 B6 O6 B5 O5
               generalize w6.setCell ⟨c, 2, none⟩ (.slice p6 (0 + 1) d6) = W8 at *
               have S8 := hide ((unhide HRR8).hc.sl 0 _ _ _ (unhide ebq) (unhide etq) (unhide esq))
               have w30 : Hid (Below W8.heap.size W8 W8) := Below.refl _ _
               have hm1 : 0 < m := by
                 have h5 : (1 : Int) ≤ 64 / sz := Int.le_ediv_of_mul_le (by have := (unhide HMM).1; omega) (by have := (unhide HMM).2.1; omega)
                 have := (unhide HMM).2.2
                 omega
               go_loopw [17] (fun s17 wr => s17 = .int .i64 0 ∧ Hid (Below W8.heap.size W8 wr)) (fun _ _ => 0)
               case atStart => exact ⟨rfl, w30⟩
               case round =>
                 clear w30
                 obtain ⟨rfl, hB8⟩ := hrel
                 have hSq := (unhide S8).b (unhide hB8)
                 have s3 := hSq.c3
                 have fr0 := hSq.row 0 hm1
                 have fr : wr.cell? ⟨W4.heap.size, 0, none⟩ = some (.bool false) := by simpa using fr0
                 have ffz := hSq.fz 0
                 have hmi : (0 : Int) < m := by omega
                 have RR9 := hide ((unhide HRR8).b (unhide hB8))
                 have HRT := hide ((unhide RR9).hc.turn (unhide ebq) (unhide etq) (unhide esq) (k := 0) 1 true hm1 (by decide) (fun j hj => by
                   rw [Nat.zero_testBit]
                   cases j with
                   | zero => exact absurd rfl hj
                   | succ j => simp [Nat.testBit_succ]))
                 have HR9 := hide ((unhide HR8).b (unhide hB8))
                 have HC9 := hide ((unhide HC8).trans (Chg.below (unhide hB8)))
                 have w1' : IntKind.i64.wrap (at' * 64) = at' * 64 := IntWalk.i64_in _ (by omega)
                 clear hSq fr0 HRR8 HR8 HC8 hB8
                 go_upto_region 29 with (fail)
                 have RR5 := (unhide RR9).turnC ((unhide HRT).2.mono (by decide) (Nat.le_refl _)) (unhide HRT).1
                 have CH5 := hide ((unhide HC9).trans ((unhide HRT).2.mono (by decide : ∀ t ∈ [some 4], t ∈ R4) (Nat.le_refl _)))
                 have RX5 := (unhide HR9).c (unhide HRT).2 (by decide)
                 have hset : (Sb.ins ss 0 (⟨i, at', 0⟩ : Sl)).set 0 { (⟨i, at', 0⟩ : Sl) with bm := 1 } = Sb.ins ss 0 ⟨i, at', 1⟩ := ins_set (by omega)
                 rw [hset] at RR5
                 have S5 := RR5.hc.sl 0 _ _ _ (unhide ebq) (unhide etq) (by rw [ins_get _ (by omega), if_neg (by omega), if_pos rfl])
                 have HRR5 := hide RR5
                 have HRX5 := hide RX5
                 have k1 := RR5.hc.c1
                 have k0 := S5.c0
                 have ka := S5.c1
                 have r0 := RX5.c0
                 have r1 := RX5.c1
                 have f0 := RX5.fz 0
                 have f1 := RX5.fz 1
                 clear RR5 RX5 S5 HRT RR9 HR9 HC9 s3 fr ffz S8 hset
                 generalize wr.setCell ⟨W4.heap.size, 0, none⟩ (.bool true) = W5 at *
                 simp only at k0 ka
                 obtain ⟨t0, t1⟩ := set2_at (W := W5) r0 r1 (.int .i64 (i : Int)) (.int .i64 (at' * 64))
                 go_region
                 go_wp2
                 refine bodyPost_ret (v := .tuple #[.agg #[.int .i64 i, .int .i64 (at' * 64)], .int .i64 0]) (by simp [results, Tryz.results25, go_sem, t0, t1]; try rfl) rfl ?_
                 exact (unhide HRES0) 0 _ _ _ (unhide HPOS) (((unhide HRR5).chg ((Chg.set (unhide HRX5).tg (Nat.zero_le _) 0 (.int .i64 (i : Int))).trans (Chg.set ((unhide HRX5).tg.set _ _) (Nat.zero_le _) 1 (.int .i64 (at' * 64)))) (by decide)).b (drw _)) (((unhide CH5).fresh (Nat.le_refl _) 0 _).fresh (Nat.le_refl _) 1 _).drew
             · have HN1 : Hid (∀ j' u, (ptrl (bs.take q))[j']? = some u → wr.cell? ((⟨g4, 0, none⟩ : Addr).add j') = some u) := news_ptr cg4 (fun i b hb => by
                 rw [List.getElem?_take] at hb
                 split at hb
                 · rw [Nat.zero_add]; exact hb
                 · cases hb)
               have HN2 : Hid (∀ j' u, (ptrl (bs.drop q))[j']? = some u → wr.cell? ((⟨g4, q, none⟩ : Addr).add j') = some u) := news_ptr cg4 (fun i b hb => by rw [List.getElem?_drop] at hb; exact hb)
               have HCG := hide cg4
               unfold maxLen at hd5
               clear cg4
               by_cases hql : q < ss.length
               · obtain ⟨b, t, s, eb, et, es, hS⟩ := (unhide HSLB) hql
                 have gb := (unhide HCG) q b eb
                 have s0 := hS.c0
                 have s1 := hS.c1
                 unfold ptr at gb
                 have hd1 : decide ((q : Int) < (ss.length : Int)) = true := by simp; omega
                 have hd2 : decide (q < ss.length) = true := by simp; omega
                 have hqi : (q : Int) < (ss.length : Int) := by omega
                 have HES := hide es
                 by_cases hA : s.nd < i
                 · have hdA : decide ((s.nd : Int) < (i : Int)) = true := by simp; omega
                   have hdA2 : decide (s.nd < i) = true := by simp; omega
                   have hL2 : Hid (∀ t s, t < q + 1 → ss[t]? = some s → lt s i at') := fun t' s' h1 h2 => by
                     rcases Nat.lt_or_ge t' q with h | h
                     · exact (unhide hL) t' s' h h2
                     · obtain rfl : t' = q := by omega
                       rw [unhide HES] at h2
                       cases h2
                       exact Or.inl hA
                   clear es eb et hS FIN0 HPE HT HD HN1 HN2 HSLB hL HCG
                   go_wp2_with fail
                   go_quiet (fail)
                   go_wp2_with fail
                   go_roundw
                   case rel => exact ⟨q + 1, by go_num, by omega, bdN (unhide hB) _, hL2⟩
                   case measure => simp [RowKit.intOf]; omega
                 · have hdA : decide ((s.nd : Int) < (i : Int)) = false := by simp; omega
                   have hdA2 : decide (s.nd < i) = false := by simp; omega
                   by_cases hBq : s.nd = i
                   · have hdB : ((s.nd : Int) == (i : Int)) = true := by simp; omega
                     have hdB2 : decide ((s.nd : Int) = (i : Int)) = true := by simp; omega
                     have hdB3 : decide (s.nd = i) = true := by simp; omega
                     by_cases hCq : s.at_ < at'
                     · have hdC : decide (s.at_ < at') = true := by simpa using hCq
                       have hL2 : Hid (∀ t s, t < q + 1 → ss[t]? = some s → lt s i at') := fun t' s' h1 h2 => by
                         rcases Nat.lt_or_ge t' q with h | h
                         · exact (unhide hL) t' s' h h2
                         · obtain rfl : t' = q := by omega
                           rw [unhide HES] at h2
                           cases h2
                           exact Or.inr ⟨hBq, hCq⟩
                       clear es eb et hS FIN0 HPE HT HD HN1 HN2 HSLB hL HCG hBq
                       go_wp2_with fail
                       go_quiet (fail)
                       go_wp2_with fail
                       go_roundw
                       case rel => exact ⟨q + 1, by go_num, by omega, bdN (unhide hB) _, hL2⟩
                       case measure => simp [RowKit.intOf]; omega
                     · have hdC : decide (s.at_ < at') = false := by simpa using hCq
                       have HPOS : Hid (Pos ss i at' q) := pos_up (unhide HSOR) hq (unhide hL) (fun s' hs hl => by
                         rw [unhide HES] at hs
                         cases hs
                         unfold lt at hl
                         omega)
                       clear es eb et hS HSLB hL HCG hBq
                       go_wp2_with fail
                       go_quiet (fail)
                       have tok1 : True := trivial
                       go_wp2_with (first
                         | (at_builtin; have _t := tok1; refine wpList_append_own _ rfl (.tmp 169) (.tmp 175) 64 rfl wr.heap.size 140 i0 (.pointer none) 1 8 Tryz.underlying64 (unhide HI) (unhide HZ) (unhide HZ1) (unhide HZ2) rfl (by decide) _ 0 [] rfl (World.ownsRow_nil _ _ _ _) _ _ _ (ptrl (bs.take q)) rfl (unhide HT) (unhide HN1) (ptrl_one' _) (by unfold maxLen; omega) (by omega) (Nat.le_refl _) ?_; intro v5 w5 o5 g5 n5; rw [Nat.zero_add, List.nil_append] at o5; obtain ⟨p5, d5, rfl⟩ := own_slice o5; have b5 : Below wr.heap.size wr w5 := (bdN (Below.refl wr.heap.size wr) nq).grown g5 (Nat.le_refl _) (fun k hk => by cases hk); have a55 := (b5.cell (p := ⟨c, 2, none⟩) hclq).trans e4; have B5 := hide b5; have O5 := hide o5; clear o5 g5 n5 b5 tok1; have tok2 : True := trivial)
                         | (at_builtin; have _t := tok2; refine wpList_append_own _ rfl (.tmp 177) (.tmp 179) 64 rfl wr.heap.size 140 i0 (.pointer none) 1 8 Tryz.underlying64 (unhide HI) (unhide HZ) (unhide HZ1) (unhide HZ2) rfl (by decide) _ _ _ rfl ((unhide O5).alloc _) ⟨w5.heap.size, 0, none⟩ 1 1 [.pointer (some ⟨W4.heap.size + 1, 0, none⟩)] rfl rfl (news1p _ _ _) (by intro u hu; simp at hu; subst hu; rfl) (by unfold maxLen; omega) (by omega) (by have := (unhide B5).size; simp; omega) ?_; intro v6 w6 o6 g6 n6; obtain ⟨p6, d6, rfl⟩ := own_slice o6; have b6 : Below wr.heap.size wr w6 := ((unhide B5).alloc (unhide B5).size _).grown g6 (by have := (unhide B5).size; simp; omega) (own_row (unhide O5)); have a66 := (b6.cell (p := ⟨c, 2, none⟩) hclq).trans e4; have B6 := hide b6; have O6 := hide o6; clear o6 g6 n6 b6 tok2; have tok3 : True := trivial)
                         | (at_builtin; have _t := tok3; have N6 : Hid (∀ j' u, (ptrl (bs.drop q))[j']? = some u → w6.cell? ((⟨g4, q, none⟩ : Addr).add j') = some u) := news_below hg4 (unhide B6) (unhide HN2); refine wpList_append_own _ rfl (.tmp 182) (.tmp 188) 64 rfl wr.heap.size 140 i0 (.pointer none) 1 8 Tryz.underlying64 (unhide HI) (unhide HZ) (unhide HZ1) (unhide HZ2) rfl (by decide) _ _ _ rfl (unhide O6) _ _ _ (ptrl (bs.drop q)) rfl (unhide HD) (unhide N6) (ptrl_one' _) (by unfold maxLen; omega) (by omega) (unhide B6).size ?_; intro v7 w7 o7 g7 n7; rw [show q + 1 + (ss.length - q) = ss.length + 1 by omega] at o7; obtain ⟨p7, d7, rfl⟩ := own_slice o7; have b7 : Below wr.heap.size wr w7 := (unhide B6).grown g7 (unhide B6).size (own_row (unhide O6)); have a77 := (b7.cell (p := ⟨c, 2, none⟩) hclq).trans e4; have f77 := (b7.frozen (p := ⟨c, 2, none⟩) hclq).trans hcf; have O7 := hide o7; have B7 := hide b7; clear o7 g7 n7 b7 tok3))
                       have FIN := hide ((unhide FIN0) (unhide HPOS) _ w7 (unhide B7) (by rw [unhide HPE]; exact unhide O7))
                       have HRR8 := hide (unhide FIN).1
                       have HC8 := hide (unhide FIN).2
                       have HR8 : Hid (Rx (w7.setCell ⟨c, 2, none⟩ (.slice p7 (ss.length + 1) d7)) w.heap.size (.int .i64 0) (.int .i64 0)) := (((unhide HR6).b (unhide hB)).b (unhide B7)).c (Chg.set (N := 0) ((unhide HRRq).b (unhide B7)).hc.tg (Nat.zero_le _) 2 _) (by decide)
                       have ebq : Hid ((Sb.ins bs q (W4.heap.size + 1))[q]? = some (W4.heap.size + 1)) := by show _ = _; rw [ins_get _ (by omega), if_neg (by omega), if_pos rfl]
                       have etq : Hid ((Sb.ins ts q W4.heap.size)[q]? = some W4.heap.size) := by show _ = _; rw [ins_get _ (by have := (unhide HRRq).hc.lt; omega), if_neg (by omega), if_pos rfl]
                       have esq : Hid ((Sb.ins ss q ⟨i, at', 0⟩)[q]? = some ⟨i, at', 0⟩) := by show _ = _; rw [ins_get _ (by omega), if_neg (by omega), if_pos rfl]
                       clear FIN FIN0 HR6 HRRq HRR6 HS6 HC6 B6 O6 B5 O5 B7 O7
                       generalize w7.setCell ⟨c, 2, none⟩ (.slice p7 (ss.length + 1) d7) = W8 at *
                       have S8 := hide ((unhide HRR8).hc.sl q _ _ _ (unhide ebq) (unhide etq) (unhide esq))
                       have w30 : Hid (Below W8.heap.size W8 W8) := Below.refl _ _
                       have hm1 : 0 < m := by
                         have h5 : (1 : Int) ≤ 64 / sz := Int.le_ediv_of_mul_le (by have := (unhide HMM).1; omega) (by have := (unhide HMM).2.1; omega)
                         have := (unhide HMM).2.2
                         omega
                       go_loopw [17] (fun s17 wr => s17 = .int .i64 0 ∧ Hid (Below W8.heap.size W8 wr)) (fun _ _ => 0)
                       case atStart => exact ⟨rfl, w30⟩
                       case round =>
                         clear w30
                         obtain ⟨rfl, hB8⟩ := hrel
                         have hSq := (unhide S8).b (unhide hB8)
                         have s3 := hSq.c3
                         have fr0 := hSq.row 0 hm1
                         have fr : wr.cell? ⟨W4.heap.size, 0, none⟩ = some (.bool false) := by simpa using fr0
                         have ffz := hSq.fz 0
                         have hmi : (0 : Int) < m := by omega
                         have RR9 := hide ((unhide HRR8).b (unhide hB8))
                         have HRT := hide ((unhide RR9).hc.turn (unhide ebq) (unhide etq) (unhide esq) (k := 0) 1 true hm1 (by decide) (fun j hj => by
                           rw [Nat.zero_testBit]
                           cases j with
                           | zero => exact absurd rfl hj
                           | succ j => simp [Nat.testBit_succ]))
                         have HR9 := hide ((unhide HR8).b (unhide hB8))
                         have HC9 := hide ((unhide HC8).trans (Chg.below (unhide hB8)))
                         have w1' : IntKind.i64.wrap (at' * 64) = at' * 64 := IntWalk.i64_in _ (by omega)
                         clear hSq fr0 HRR8 HR8 HC8 hB8
                         go_upto_region 29 with (fail)
                         have RR5 := (unhide RR9).turnC ((unhide HRT).2.mono (by decide) (Nat.le_refl _)) (unhide HRT).1
                         have CH5 := hide ((unhide HC9).trans ((unhide HRT).2.mono (by decide : ∀ t ∈ [some 4], t ∈ R4) (Nat.le_refl _)))
                         have RX5 := (unhide HR9).c (unhide HRT).2 (by decide)
                         have hset : (Sb.ins ss q (⟨i, at', 0⟩ : Sl)).set q { (⟨i, at', 0⟩ : Sl) with bm := 1 } = Sb.ins ss q ⟨i, at', 1⟩ := ins_set (by omega)
                         rw [hset] at RR5
                         have S5 := RR5.hc.sl q _ _ _ (unhide ebq) (unhide etq) (by rw [ins_get _ (by omega), if_neg (by omega), if_pos rfl])
                         have HRR5 := hide RR5
                         have HRX5 := hide RX5
                         have k1 := RR5.hc.c1
                         have k0 := S5.c0
                         have ka := S5.c1
                         have r0 := RX5.c0
                         have r1 := RX5.c1
                         have f0 := RX5.fz 0
                         have f1 := RX5.fz 1
                         clear RR5 RX5 S5 HRT RR9 HR9 HC9 s3 fr ffz S8 hset
                         generalize wr.setCell ⟨W4.heap.size, 0, none⟩ (.bool true) = W5 at *
                         simp only at k0 ka
                         obtain ⟨t0, t1⟩ := set2_at (W := W5) r0 r1 (.int .i64 (i : Int)) (.int .i64 (at' * 64))
                         go_region
                         go_wp2
                         refine bodyPost_ret (v := .tuple #[.agg #[.int .i64 i, .int .i64 (at' * 64)], .int .i64 0]) (by simp [results, Tryz.results25, go_sem, t0, t1]; try rfl) rfl ?_
                         exact (unhide HRES0) q _ _ _ (unhide HPOS) (((unhide HRR5).chg ((Chg.set (unhide HRX5).tg (Nat.zero_le _) 0 (.int .i64 (i : Int))).trans (Chg.set ((unhide HRX5).tg.set _ _) (Nat.zero_le _) 1 (.int .i64 (at' * 64)))) (by decide)).b (drw _)) (((unhide CH5).fresh (Nat.le_refl _) 0 _).fresh (Nat.le_refl _) 1 _).drew
                   · have hdB : ((s.nd : Int) == (i : Int)) = false := by simp; omega
                     have hdB2 : decide ((s.nd : Int) = (i : Int)) = false := by simp; omega
                     have hdB3 : decide (s.nd = i) = false := by simp; omega
                     have HPOS : Hid (Pos ss i at' q) := pos_up (unhide HSOR) hq (unhide hL) (fun s' hs hl => by
                       rw [unhide HES] at hs
                       cases hs
                       unfold lt at hl
                       omega)
                     clear es eb et hS HSLB hL HCG hBq
                     go_wp2_with fail
                     go_quiet (fail)
                     have tok1 : True := trivial
                     go_wp2_with (first
                       | (at_builtin; have _t := tok1; refine wpList_append_own _ rfl (.tmp 169) (.tmp 175) 64 rfl wr.heap.size 140 i0 (.pointer none) 1 8 Tryz.underlying64 (unhide HI) (unhide HZ) (unhide HZ1) (unhide HZ2) rfl (by decide) _ 0 [] rfl (World.ownsRow_nil _ _ _ _) _ _ _ (ptrl (bs.take q)) rfl (unhide HT) (unhide HN1) (ptrl_one' _) (by unfold maxLen; omega) (by omega) (Nat.le_refl _) ?_; intro v5 w5 o5 g5 n5; rw [Nat.zero_add, List.nil_append] at o5; obtain ⟨p5, d5, rfl⟩ := own_slice o5; have b5 : Below wr.heap.size wr w5 := (bdN (Below.refl wr.heap.size wr) nq).grown g5 (Nat.le_refl _) (fun k hk => by cases hk); have a55 := (b5.cell (p := ⟨c, 2, none⟩) hclq).trans e4; have B5 := hide b5; have O5 := hide o5; clear o5 g5 n5 b5 tok1; have tok2 : True := trivial)
                       | (at_builtin; have _t := tok2; refine wpList_append_own _ rfl (.tmp 177) (.tmp 179) 64 rfl wr.heap.size 140 i0 (.pointer none) 1 8 Tryz.underlying64 (unhide HI) (unhide HZ) (unhide HZ1) (unhide HZ2) rfl (by decide) _ _ _ rfl ((unhide O5).alloc _) ⟨w5.heap.size, 0, none⟩ 1 1 [.pointer (some ⟨W4.heap.size + 1, 0, none⟩)] rfl rfl (news1p _ _ _) (by intro u hu; simp at hu; subst hu; rfl) (by unfold maxLen; omega) (by omega) (by have := (unhide B5).size; simp; omega) ?_; intro v6 w6 o6 g6 n6; obtain ⟨p6, d6, rfl⟩ := own_slice o6; have b6 : Below wr.heap.size wr w6 := ((unhide B5).alloc (unhide B5).size _).grown g6 (by have := (unhide B5).size; simp; omega) (own_row (unhide O5)); have a66 := (b6.cell (p := ⟨c, 2, none⟩) hclq).trans e4; have B6 := hide b6; have O6 := hide o6; clear o6 g6 n6 b6 tok2; have tok3 : True := trivial)
                       | (at_builtin; have _t := tok3; have N6 : Hid (∀ j' u, (ptrl (bs.drop q))[j']? = some u → w6.cell? ((⟨g4, q, none⟩ : Addr).add j') = some u) := news_below hg4 (unhide B6) (unhide HN2); refine wpList_append_own _ rfl (.tmp 182) (.tmp 188) 64 rfl wr.heap.size 140 i0 (.pointer none) 1 8 Tryz.underlying64 (unhide HI) (unhide HZ) (unhide HZ1) (unhide HZ2) rfl (by decide) _ _ _ rfl (unhide O6) _ _ _ (ptrl (bs.drop q)) rfl (unhide HD) (unhide N6) (ptrl_one' _) (by unfold maxLen; omega) (by omega) (unhide B6).size ?_; intro v7 w7 o7 g7 n7; rw [show q + 1 + (ss.length - q) = ss.length + 1 by omega] at o7; obtain ⟨p7, d7, rfl⟩ := own_slice o7; have b7 : Below wr.heap.size wr w7 := (unhide B6).grown g7 (unhide B6).size (own_row (unhide O6)); have a77 := (b7.cell (p := ⟨c, 2, none⟩) hclq).trans e4; have f77 := (b7.frozen (p := ⟨c, 2, none⟩) hclq).trans hcf; have O7 := hide o7; have B7 := hide b7; clear o7 g7 n7 b7 tok3))
                     have FIN := hide ((unhide FIN0) (unhide HPOS) _ w7 (unhide B7) (by rw [unhide HPE]; exact unhide O7))
                     have HRR8 := hide (unhide FIN).1
                     have HC8 := hide (unhide FIN).2
                     have HR8 : Hid (Rx (w7.setCell ⟨c, 2, none⟩ (.slice p7 (ss.length + 1) d7)) w.heap.size (.int .i64 0) (.int .i64 0)) := (((unhide HR6).b (unhide hB)).b (unhide B7)).c (Chg.set (N := 0) ((unhide HRRq).b (unhide B7)).hc.tg (Nat.zero_le _) 2 _) (by decide)
                     have ebq : Hid ((Sb.ins bs q (W4.heap.size + 1))[q]? = some (W4.heap.size + 1)) := by show _ = _; rw [ins_get _ (by omega), if_neg (by omega), if_pos rfl]
                     have etq : Hid ((Sb.ins ts q W4.heap.size)[q]? = some W4.heap.size) := by show _ = _; rw [ins_get _ (by have := (unhide HRRq).hc.lt; omega), if_neg (by omega), if_pos rfl]
                     have esq : Hid ((Sb.ins ss q ⟨i, at', 0⟩)[q]? = some ⟨i, at', 0⟩) := by show _ = _; rw [ins_get _ (by omega), if_neg (by omega), if_pos rfl]
                     clear FIN FIN0 HR6 HRRq HRR6 HS6 HC6 B6 O6 B5 O5 B7 O7
                     generalize w7.setCell ⟨c, 2, none⟩ (.slice p7 (ss.length + 1) d7) = W8 at *
                     have S8 := hide ((unhide HRR8).hc.sl q _ _ _ (unhide ebq) (unhide etq) (unhide esq))
                     have w30 : Hid (Below W8.heap.size W8 W8) := Below.refl _ _
                     have hm1 : 0 < m := by
                       have h5 : (1 : Int) ≤ 64 / sz := Int.le_ediv_of_mul_le (by have := (unhide HMM).1; omega) (by have := (unhide HMM).2.1; omega)
                       have := (unhide HMM).2.2
                       omega
                     go_loopw [17] (fun s17 wr => s17 = .int .i64 0 ∧ Hid (Below W8.heap.size W8 wr)) (fun _ _ => 0)
                     case atStart => exact ⟨rfl, w30⟩
                     case round =>
                       clear w30
                       obtain ⟨rfl, hB8⟩ := hrel
                       have hSq := (unhide S8).b (unhide hB8)
                       have s3 := hSq.c3
                       have fr0 := hSq.row 0 hm1
                       have fr : wr.cell? ⟨W4.heap.size, 0, none⟩ = some (.bool false) := by simpa using fr0
                       have ffz := hSq.fz 0
                       have hmi : (0 : Int) < m := by omega
                       have RR9 := hide ((unhide HRR8).b (unhide hB8))
                       have HRT := hide ((unhide RR9).hc.turn (unhide ebq) (unhide etq) (unhide esq) (k := 0) 1 true hm1 (by decide) (fun j hj => by
                         rw [Nat.zero_testBit]
                         cases j with
                         | zero => exact absurd rfl hj
                         | succ j => simp [Nat.testBit_succ]))
                       have HR9 := hide ((unhide HR8).b (unhide hB8))
                       have HC9 := hide ((unhide HC8).trans (Chg.below (unhide hB8)))
                       have w1' : IntKind.i64.wrap (at' * 64) = at' * 64 := IntWalk.i64_in _ (by omega)
                       clear hSq fr0 HRR8 HR8 HC8 hB8
                       go_upto_region 29 with (fail)
                       have RR5 := (unhide RR9).turnC ((unhide HRT).2.mono (by decide) (Nat.le_refl _)) (unhide HRT).1
                       have CH5 := hide ((unhide HC9).trans ((unhide HRT).2.mono (by decide : ∀ t ∈ [some 4], t ∈ R4) (Nat.le_refl _)))
                       have RX5 := (unhide HR9).c (unhide HRT).2 (by decide)
                       have hset : (Sb.ins ss q (⟨i, at', 0⟩ : Sl)).set q { (⟨i, at', 0⟩ : Sl) with bm := 1 } = Sb.ins ss q ⟨i, at', 1⟩ := ins_set (by omega)
                       rw [hset] at RR5
                       have S5 := RR5.hc.sl q _ _ _ (unhide ebq) (unhide etq) (by rw [ins_get _ (by omega), if_neg (by omega), if_pos rfl])
                       have HRR5 := hide RR5
                       have HRX5 := hide RX5
                       have k1 := RR5.hc.c1
                       have k0 := S5.c0
                       have ka := S5.c1
                       have r0 := RX5.c0
                       have r1 := RX5.c1
                       have f0 := RX5.fz 0
                       have f1 := RX5.fz 1
                       clear RR5 RX5 S5 HRT RR9 HR9 HC9 s3 fr ffz S8 hset
                       generalize wr.setCell ⟨W4.heap.size, 0, none⟩ (.bool true) = W5 at *
                       simp only at k0 ka
                       obtain ⟨t0, t1⟩ := set2_at (W := W5) r0 r1 (.int .i64 (i : Int)) (.int .i64 (at' * 64))
                       go_region
                       go_wp2
                       refine bodyPost_ret (v := .tuple #[.agg #[.int .i64 i, .int .i64 (at' * 64)], .int .i64 0]) (by simp [results, Tryz.results25, go_sem, t0, t1]; try rfl) rfl ?_
                       exact (unhide HRES0) q _ _ _ (unhide HPOS) (((unhide HRR5).chg ((Chg.set (unhide HRX5).tg (Nat.zero_le _) 0 (.int .i64 (i : Int))).trans (Chg.set ((unhide HRX5).tg.set _ _) (Nat.zero_le _) 1 (.int .i64 (at' * 64)))) (by decide)).b (drw _)) (((unhide CH5).fresh (Nat.le_refl _) 0 _).fresh (Nat.le_refl _) 1 _).drew
               · obtain rfl : q = ss.length := by omega
                 have hd1 : decide ((ss.length : Int) < (ss.length : Int)) = false := by simp
                 have hd2 : decide (ss.length < ss.length) = false := by simp
                 have HPOS : Hid (Pos ss i at' ss.length) := pos_up (unhide HSOR) hq (unhide hL) (fun s' hs => by have := (List.getElem?_eq_some_iff.mp hs).1; omega)
                 have hzd : Hid (ptrl (bs.drop ss.length) = []) := by show _ = _; rw [List.drop_of_length_le (by omega)]; rfl
                 clear HSLB hL HCG
                 by_cases hqc : ss.length = d4
                 · subst hqc
                   go_wp2_with fail
                   go_quiet (fail)
                   have tok1 : True := trivial
                   go_wp2_with (first
                     | (at_builtin; have _t := tok1; refine wpList_append_own _ rfl (.tmp 169) (.tmp 175) 64 rfl wr.heap.size 140 i0 (.pointer none) 1 8 Tryz.underlying64 (unhide HI) (unhide HZ) (unhide HZ1) (unhide HZ2) rfl (by decide) _ 0 [] rfl (World.ownsRow_nil _ _ _ _) _ _ _ (ptrl (bs.take ss.length)) rfl (unhide HT) (unhide HN1) (ptrl_one' _) (by unfold maxLen; omega) (by omega) (Nat.le_refl _) ?_; intro v5 w5 o5 g5 n5; rw [Nat.zero_add, List.nil_append] at o5; obtain ⟨p5, d5, rfl⟩ := own_slice o5; have b5 : Below wr.heap.size wr w5 := (bdN (Below.refl wr.heap.size wr) nq).grown g5 (Nat.le_refl _) (fun k hk => by cases hk); have a55 := (b5.cell (p := ⟨c, 2, none⟩) hclq).trans e4; have B5 := hide b5; have O5 := hide o5; clear o5 g5 n5 b5 tok1; have tok2 : True := trivial)
                     | (at_builtin; have _t := tok2; refine wpList_append_own _ rfl (.tmp 177) (.tmp 179) 64 rfl wr.heap.size 140 i0 (.pointer none) 1 8 Tryz.underlying64 (unhide HI) (unhide HZ) (unhide HZ1) (unhide HZ2) rfl (by decide) _ _ _ rfl ((unhide O5).alloc _) ⟨w5.heap.size, 0, none⟩ 1 1 [.pointer (some ⟨W4.heap.size + 1, 0, none⟩)] rfl rfl (news1p _ _ _) (by intro u hu; simp at hu; subst hu; rfl) (by unfold maxLen; omega) (by omega) (by have := (unhide B5).size; simp; omega) ?_; intro v6 w6 o6 g6 n6; obtain ⟨p6, d6, rfl⟩ := own_slice o6; have b6 : Below wr.heap.size wr w6 := ((unhide B5).alloc (unhide B5).size _).grown g6 (by have := (unhide B5).size; simp; omega) (own_row (unhide O5)); have a66 := (b6.cell (p := ⟨c, 2, none⟩) hclq).trans e4; have B6 := hide b6; have O6 := hide o6; clear o6 g6 n6 b6 tok2; have tok3 : True := trivial)
                     | (at_builtin; have _t := tok3; refine wpList_append_own _ rfl (.tmp 182) (.tmp 188) 64 rfl wr.heap.size 140 i0 (.pointer none) 1 8 Tryz.underlying64 (unhide HI) (unhide HZ) (unhide HZ1) (unhide HZ2) rfl (by decide) _ _ _ rfl (unhide O6) _ 0 _ [] rfl rfl (by intro j u h; simp at h) (by intro u h; simp at h) (by unfold maxLen; omega) (by omega) (unhide B6).size ?_; intro v7 w7 o7 g7 n7; rw [show ss.length + 1 + 0 = ss.length + 1 by omega] at o7; obtain ⟨p7, d7, rfl⟩ := own_slice o7; have b7 : Below wr.heap.size wr w7 := (unhide B6).grown g7 (unhide B6).size (own_row (unhide O6)); have a77 := (b7.cell (p := ⟨c, 2, none⟩) hclq).trans e4; have f77 := (b7.frozen (p := ⟨c, 2, none⟩) hclq).trans hcf; have O7 := hide o7; have B7 := hide b7; clear o7 g7 n7 b7 tok3))
                   have FIN := hide ((unhide FIN0) (unhide HPOS) _ w7 (unhide B7) (by rw [unhide HPE, unhide hzd]; exact unhide O7))
                   have HRR8 := hide (unhide FIN).1
                   have HC8 := hide (unhide FIN).2
                   have HR8 : Hid (Rx (w7.setCell ⟨c, 2, none⟩ (.slice p7 (ss.length + 1) d7)) w.heap.size (.int .i64 0) (.int .i64 0)) := (((unhide HR6).b (unhide hB)).b (unhide B7)).c (Chg.set (N := 0) ((unhide HRRq).b (unhide B7)).hc.tg (Nat.zero_le _) 2 _) (by decide)
                   have ebq : Hid ((Sb.ins bs ss.length (W4.heap.size + 1))[ss.length]? = some (W4.heap.size + 1)) := by show _ = _; rw [ins_get _ (by omega), if_neg (by omega), if_pos rfl]
                   have etq : Hid ((Sb.ins ts ss.length W4.heap.size)[ss.length]? = some W4.heap.size) := by show _ = _; rw [ins_get _ (by have := (unhide HRRq).hc.lt; omega), if_neg (by omega), if_pos rfl]
                   have esq : Hid ((Sb.ins ss ss.length ⟨i, at', 0⟩)[ss.length]? = some ⟨i, at', 0⟩) := by show _ = _; rw [ins_get _ (by omega), if_neg (by omega), if_pos rfl]
                   clear FIN FIN0 HR6 HRRq HRR6 HS6 HC6 B6 O6 B5 O5 B7 O7
                   generalize w7.setCell ⟨c, 2, none⟩ (.slice p7 (ss.length + 1) d7) = W8 at *
                   have S8 := hide ((unhide HRR8).hc.sl ss.length _ _ _ (unhide ebq) (unhide etq) (unhide esq))
                   have w30 : Hid (Below W8.heap.size W8 W8) := Below.refl _ _
                   have hm1 : 0 < m := by
                     have h5 : (1 : Int) ≤ 64 / sz := Int.le_ediv_of_mul_le (by have := (unhide HMM).1; omega) (by have := (unhide HMM).2.1; omega)
                     have := (unhide HMM).2.2
                     omega
                   go_loopw [17] (fun s17 wr => s17 = .int .i64 0 ∧ Hid (Below W8.heap.size W8 wr)) (fun _ _ => 0)
                   case atStart => exact ⟨rfl, w30⟩
                   case round =>
                     clear w30
                     obtain ⟨rfl, hB8⟩ := hrel
                     have hSq := (unhide S8).b (unhide hB8)
                     have s3 := hSq.c3
                     have fr0 := hSq.row 0 hm1
                     have fr : wr.cell? ⟨W4.heap.size, 0, none⟩ = some (.bool false) := by simpa using fr0
                     have ffz := hSq.fz 0
                     have hmi : (0 : Int) < m := by omega
                     have RR9 := hide ((unhide HRR8).b (unhide hB8))
                     have HRT := hide ((unhide RR9).hc.turn (unhide ebq) (unhide etq) (unhide esq) (k := 0) 1 true hm1 (by decide) (fun j hj => by
                       rw [Nat.zero_testBit]
                       cases j with
                       | zero => exact absurd rfl hj
                       | succ j => simp [Nat.testBit_succ]))
                     have HR9 := hide ((unhide HR8).b (unhide hB8))
                     have HC9 := hide ((unhide HC8).trans (Chg.below (unhide hB8)))
                     have w1' : IntKind.i64.wrap (at' * 64) = at' * 64 := IntWalk.i64_in _ (by omega)
                     clear hSq fr0 HRR8 HR8 HC8 hB8
                     go_upto_region 29 with (fail)
                     have RR5 := (unhide RR9).turnC ((unhide HRT).2.mono (by decide) (Nat.le_refl _)) (unhide HRT).1
                     have CH5 := hide ((unhide HC9).trans ((unhide HRT).2.mono (by decide : ∀ t ∈ [some 4], t ∈ R4) (Nat.le_refl _)))
                     have RX5 := (unhide HR9).c (unhide HRT).2 (by decide)
                     have hset : (Sb.ins ss ss.length (⟨i, at', 0⟩ : Sl)).set ss.length { (⟨i, at', 0⟩ : Sl) with bm := 1 } = Sb.ins ss ss.length ⟨i, at', 1⟩ := ins_set (by omega)
                     rw [hset] at RR5
                     have S5 := RR5.hc.sl ss.length _ _ _ (unhide ebq) (unhide etq) (by rw [ins_get _ (by omega), if_neg (by omega), if_pos rfl])
                     have HRR5 := hide RR5
                     have HRX5 := hide RX5
                     have k1 := RR5.hc.c1
                     have k0 := S5.c0
                     have ka := S5.c1
                     have r0 := RX5.c0
                     have r1 := RX5.c1
                     have f0 := RX5.fz 0
                     have f1 := RX5.fz 1
                     clear RR5 RX5 S5 HRT RR9 HR9 HC9 s3 fr ffz S8 hset
                     generalize wr.setCell ⟨W4.heap.size, 0, none⟩ (.bool true) = W5 at *
                     simp only at k0 ka
                     obtain ⟨t0, t1⟩ := set2_at (W := W5) r0 r1 (.int .i64 (i : Int)) (.int .i64 (at' * 64))
                     go_region
                     go_wp2
                     refine bodyPost_ret (v := .tuple #[.agg #[.int .i64 i, .int .i64 (at' * 64)], .int .i64 0]) (by simp [results, Tryz.results25, go_sem, t0, t1]; try rfl) rfl ?_
                     exact (unhide HRES0) ss.length _ _ _ (unhide HPOS) (((unhide HRR5).chg ((Chg.set (unhide HRX5).tg (Nat.zero_le _) 0 (.int .i64 (i : Int))).trans (Chg.set ((unhide HRX5).tg.set _ _) (Nat.zero_le _) 1 (.int .i64 (at' * 64)))) (by decide)).b (drw _)) (((unhide CH5).fresh (Nat.le_refl _) 0 _).fresh (Nat.le_refl _) 1 _).drew
                 · go_wp2_with fail
                   go_quiet (fail)
                   have tok1 : True := trivial
                   go_wp2_with (first
                     | (at_builtin; have _t := tok1; refine wpList_append_own _ rfl (.tmp 169) (.tmp 175) 64 rfl wr.heap.size 140 i0 (.pointer none) 1 8 Tryz.underlying64 (unhide HI) (unhide HZ) (unhide HZ1) (unhide HZ2) rfl (by decide) _ 0 [] rfl (World.ownsRow_nil _ _ _ _) _ _ _ (ptrl (bs.take ss.length)) rfl (unhide HT) (unhide HN1) (ptrl_one' _) (by unfold maxLen; omega) (by omega) (Nat.le_refl _) ?_; intro v5 w5 o5 g5 n5; rw [Nat.zero_add, List.nil_append] at o5; obtain ⟨p5, d5, rfl⟩ := own_slice o5; have b5 : Below wr.heap.size wr w5 := (bdN (Below.refl wr.heap.size wr) nq).grown g5 (Nat.le_refl _) (fun k hk => by cases hk); have a55 := (b5.cell (p := ⟨c, 2, none⟩) hclq).trans e4; have B5 := hide b5; have O5 := hide o5; clear o5 g5 n5 b5 tok1; have tok2 : True := trivial)
                     | (at_builtin; have _t := tok2; refine wpList_append_own _ rfl (.tmp 177) (.tmp 179) 64 rfl wr.heap.size 140 i0 (.pointer none) 1 8 Tryz.underlying64 (unhide HI) (unhide HZ) (unhide HZ1) (unhide HZ2) rfl (by decide) _ _ _ rfl ((unhide O5).alloc _) ⟨w5.heap.size, 0, none⟩ 1 1 [.pointer (some ⟨W4.heap.size + 1, 0, none⟩)] rfl rfl (news1p _ _ _) (by intro u hu; simp at hu; subst hu; rfl) (by unfold maxLen; omega) (by omega) (by have := (unhide B5).size; simp; omega) ?_; intro v6 w6 o6 g6 n6; obtain ⟨p6, d6, rfl⟩ := own_slice o6; have b6 : Below wr.heap.size wr w6 := ((unhide B5).alloc (unhide B5).size _).grown g6 (by have := (unhide B5).size; simp; omega) (own_row (unhide O5)); have a66 := (b6.cell (p := ⟨c, 2, none⟩) hclq).trans e4; have B6 := hide b6; have O6 := hide o6; clear o6 g6 n6 b6 tok2; have tok3 : True := trivial)
                     | (at_builtin; have _t := tok3; refine wpList_append_own _ rfl (.tmp 182) (.tmp 188) 64 rfl wr.heap.size 140 i0 (.pointer none) 1 8 Tryz.underlying64 (unhide HI) (unhide HZ) (unhide HZ1) (unhide HZ2) rfl (by decide) _ _ _ rfl (unhide O6) _ 0 _ [] rfl rfl (by intro j u h; simp at h) (by intro u h; simp at h) (by unfold maxLen; omega) (by omega) (unhide B6).size ?_; intro v7 w7 o7 g7 n7; rw [show ss.length + 1 + 0 = ss.length + 1 by omega] at o7; obtain ⟨p7, d7, rfl⟩ := own_slice o7; have b7 : Below wr.heap.size wr w7 := (unhide B6).grown g7 (unhide B6).size (own_row (unhide O6)); have a77 := (b7.cell (p := ⟨c, 2, none⟩) hclq).trans e4; have f77 := (b7.frozen (p := ⟨c, 2, none⟩) hclq).trans hcf; have O7 := hide o7; have B7 := hide b7; clear o7 g7 n7 b7 tok3))
                   have FIN := hide ((unhide FIN0) (unhide HPOS) _ w7 (unhide B7) (by rw [unhide HPE, unhide hzd]; exact unhide O7))
                   have HRR8 := hide (unhide FIN).1
                   have HC8 := hide (unhide FIN).2
                   have HR8 : Hid (Rx (w7.setCell ⟨c, 2, none⟩ (.slice p7 (ss.length + 1) d7)) w.heap.size (.int .i64 0) (.int .i64 0)) := (((unhide HR6).b (unhide hB)).b (unhide B7)).c (Chg.set (N := 0) ((unhide HRRq).b (unhide B7)).hc.tg (Nat.zero_le _) 2 _) (by decide)
                   have ebq : Hid ((Sb.ins bs ss.length (W4.heap.size + 1))[ss.length]? = some (W4.heap.size + 1)) := by show _ = _; rw [ins_get _ (by omega), if_neg (by omega), if_pos rfl]
                   have etq : Hid ((Sb.ins ts ss.length W4.heap.size)[ss.length]? = some W4.heap.size) := by show _ = _; rw [ins_get _ (by have := (unhide HRRq).hc.lt; omega), if_neg (by omega), if_pos rfl]
                   have esq : Hid ((Sb.ins ss ss.length ⟨i, at', 0⟩)[ss.length]? = some ⟨i, at', 0⟩) := by show _ = _; rw [ins_get _ (by omega), if_neg (by omega), if_pos rfl]
                   clear FIN FIN0 HR6 HRRq HRR6 HS6 HC6 B6 O6 B5 O5 B7 O7
                   generalize w7.setCell ⟨c, 2, none⟩ (.slice p7 (ss.length + 1) d7) = W8 at *
                   have S8 := hide ((unhide HRR8).hc.sl ss.length _ _ _ (unhide ebq) (unhide etq) (unhide esq))
                   have w30 : Hid (Below W8.heap.size W8 W8) := Below.refl _ _
                   have hm1 : 0 < m := by
                     have h5 : (1 : Int) ≤ 64 / sz := Int.le_ediv_of_mul_le (by have := (unhide HMM).1; omega) (by have := (unhide HMM).2.1; omega)
                     have := (unhide HMM).2.2
                     omega
                   go_loopw [17] (fun s17 wr => s17 = .int .i64 0 ∧ Hid (Below W8.heap.size W8 wr)) (fun _ _ => 0)
                   case atStart => exact ⟨rfl, w30⟩
                   case round =>
                     clear w30
                     obtain ⟨rfl, hB8⟩ := hrel
                     have hSq := (unhide S8).b (unhide hB8)
                     have s3 := hSq.c3
                     have fr0 := hSq.row 0 hm1
                     have fr : wr.cell? ⟨W4.heap.size, 0, none⟩ = some (.bool false) := by simpa using fr0
                     have ffz := hSq.fz 0
                     have hmi : (0 : Int) < m := by omega
                     have RR9 := hide ((unhide HRR8).b (unhide hB8))
                     have HRT := hide ((unhide RR9).hc.turn (unhide ebq) (unhide etq) (unhide esq) (k := 0) 1 true hm1 (by decide) (fun j hj => by
                       rw [Nat.zero_testBit]
                       cases j with
                       | zero => exact absurd rfl hj
                       | succ j => simp [Nat.testBit_succ]))
                     have HR9 := hide ((unhide HR8).b (unhide hB8))
                     have HC9 := hide ((unhide HC8).trans (Chg.below (unhide hB8)))
                     have w1' : IntKind.i64.wrap (at' * 64) = at' * 64 := IntWalk.i64_in _ (by omega)
                     clear hSq fr0 HRR8 HR8 HC8 hB8
                     go_upto_region 29 with (fail)
                     have RR5 := (unhide RR9).turnC ((unhide HRT).2.mono (by decide) (Nat.le_refl _)) (unhide HRT).1
                     have CH5 := hide ((unhide HC9).trans ((unhide HRT).2.mono (by decide : ∀ t ∈ [some 4], t ∈ R4) (Nat.le_refl _)))
                     have RX5 := (unhide HR9).c (unhide HRT).2 (by decide)
                     have hset : (Sb.ins ss ss.length (⟨i, at', 0⟩ : Sl)).set ss.length { (⟨i, at', 0⟩ : Sl) with bm := 1 } = Sb.ins ss ss.length ⟨i, at', 1⟩ := ins_set (by omega)
                     rw [hset] at RR5
                     have S5 := RR5.hc.sl ss.length _ _ _ (unhide ebq) (unhide etq) (by rw [ins_get _ (by omega), if_neg (by omega), if_pos rfl])
                     have HRR5 := hide RR5
                     have HRX5 := hide RX5
                     have k1 := RR5.hc.c1
                     have k0 := S5.c0
                     have ka := S5.c1
                     have r0 := RX5.c0
                     have r1 := RX5.c1
                     have f0 := RX5.fz 0
                     have f1 := RX5.fz 1
                     clear RR5 RX5 S5 HRT RR9 HR9 HC9 s3 fr ffz S8 hset
                     generalize wr.setCell ⟨W4.heap.size, 0, none⟩ (.bool true) = W5 at *
                     simp only at k0 ka
                     obtain ⟨t0, t1⟩ := set2_at (W := W5) r0 r1 (.int .i64 (i : Int)) (.int .i64 (at' * 64))
                     go_region
                     go_wp2
                     refine bodyPost_ret (v := .tuple #[.agg #[.int .i64 i, .int .i64 (at' * 64)], .int .i64 0]) (by simp [results, Tryz.results25, go_sem, t0, t1]; try rfl) rfl ?_
                     exact (unhide HRES0) ss.length _ _ _ (unhide HPOS) (((unhide HRR5).chg ((Chg.set (unhide HRX5).tg (Nat.zero_le _) 0 (.int .i64 (i : Int))).trans (Chg.set ((unhide HRX5).tg.set _ _) (Nat.zero_le _) 1 (.int .i64 (at' * 64)))) (by decide)).b (drw _)) (((unhide CH5).fresh (Nat.le_refl _) 0 _).fresh (Nat.le_refl _) 1 _).drew
 · rw [show decide (0 ≤ x ∧ x < k) = false by simpa using hx]
   have hPE := hide ((unhide HP2).chg ((Chg.set (unhide HR2).tg (Nat.zero_le _) 0 (.int .i64 0)).trans (Chg.set ((unhide HR2).tg.set _ _) (Nat.zero_le _) 1 (.int .i64 0))) (by decide))
   have hCE := hide (((Chg.below (unhide HF2) : Chg R4 N0 w w1).fresh (Nat.le_refl _) 0 (.int .i64 0)).fresh (Nat.le_refl _) 1 (.int .i64 0))
   obtain ⟨t0, t1⟩ := set2_at (unhide HR2).c0 (unhide HR2).c1 (.int .i64 0) (.int .i64 0)
   have r0 := (unhide HR2).c0
   have r1 := (unhide HR2).c1
   have f0 := (unhide HR2).fz 0
   have f1 := (unhide HR2).fz 1
   clear RO RW HF2 HP2 HR2 e21 c01
   go_wp2_with fail
   refine bodyPost_ret (v := .tuple #[.agg #[.int .i64 0, .int .i64 0], .int .i64 2]) (by simp [results, Tryz.results25, go_sem, t0, t1]; try rfl) rfl ?_
   exact (unhide RN) 2 _ (unhide hPE) (unhide hCE) (Or.inl ⟨rfl, hx⟩)
end Sb
end Go.Proofs.YtfefehkapffljaaGreatDoor
