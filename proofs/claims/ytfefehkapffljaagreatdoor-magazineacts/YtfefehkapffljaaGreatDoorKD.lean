/- K9 · K10 · K11. -/
import Derived.Test.YtfefehkapffljaaGreatDoorKA
import Derived.Test.YtfefehkapffljaaGreatDoorGR
import Derived.Test.YtfefehkapffljaaGreatDoorGD
import Derived.Test.YtfefehkapffljaaGreatDoorGM
import Derived.BigQuiet
import Derived.Deep.RegionHeld3
import Derived.Deep.LoopGhost
import Derived.Test.YtfefehkapffljaaGreatDoorKC
namespace Go.Proofs.YtfefehkapffljaaGreatDoor
open Go.RowKit
namespace Sb
open Fr Bd Zn Dz
def orv (a b : Int) : Int := if a = 0 then b else a
set_option maxHeartbeats 2000000 in
theorem or_ok (vb c : Nat) (a b : Int) (w : World) (h0 : w.cell? ⟨vb, 0, none⟩ = some (.int .i64 a)) (h1 : w.cell? ⟨vb, 1, none⟩ = some (.int .i64 b)) :
   Calls Tryz.prog 122 #[.slice (some ⟨vb, 0, none⟩) 2 c] w fun ev w' => ev = .returned (.int .i64 (orv a b)) ∧ w' = w := by
 unfold orv
 go_enter Tryz.func122, Tryz.ntmps122
 go_wp2_with fail
 go_loopw [8] (fun s wr => ∃ i : Nat, s = .int .i64 i ∧ i ≤ 2 ∧ wr = w ∧ (1 ≤ i → a = 0) ∧ (2 ≤ i → b = 0)) (fun s _ => 2 - (RowKit.intOf s).toNat)
 case atStart => exact ⟨0, rfl, by omega, rfl, by omega, by omega⟩
 case round =>
   obtain ⟨i, rfl, hi, rfl, ha, hb⟩ := hrel
   rcases (show i = 0 ∨ i = 1 ∨ i = 2 by omega) with rfl | rfl | rfl
   · by_cases h : a = 0
     · subst h
       go_wp2
       go_roundw
       case rel => exact ⟨1, by go_num, by omega, by simp⟩
       case measure => simp [RowKit.intOf]
     · have d : (a != 0) = true := by simpa using h
       go_wp2
       go_ret
       exact ⟨by simp, rfl⟩
   · have ha := ha (by omega)
     subst ha
     by_cases h : b = 0
     · subst h
       go_wp2
       go_roundw
       case rel => exact ⟨2, by go_num, by omega, by simp⟩
       case measure => simp [RowKit.intOf]
     · have d : (b != 0) = true := by simpa using h
       go_wp2
       go_ret
       exact ⟨by simp, rfl⟩
   · have ha := ha (by omega)
     have hb := hb (by omega)
     subst ha hb
     go_wp2
     go_ret
     exact ⟨by simp, rfl⟩
set_option maxRecDepth 100000 in
set_option maxHeartbeats 4000000 in
theorem addc_ok (b : Nat) (n0 a0 x a o : Int) (w : World) (h0 : w.cell? ⟨b, 0, none⟩ = some (.int .i64 n0)) (h1 : w.cell? ⟨b, 1, none⟩ = some (.int .i64 a0)) :
   Calls Tryz.prog 121 (#[ptr b, plV x a o] ++ #[]) w fun ev w' => ev = .returned (.int .i64 (orv (cmpv n0 x) (cmpv a0 a))) ∧ Below w.heap.size w w' := by
 have hb := World.block_lt_of_cell? w _ h0
 simp only at hb
 have F1 := ballo (Below.refl w.heap.size w) (plO x a o)
 have k0 := (F1.cell (p := ⟨b, 0, none⟩) hb).trans h0
 have k1 := (F1.cell (p := ⟨b, 1, none⟩) hb).trans h1
 have q0 := World.cell?_alloc_new w #[.int .i64 x, .int .i64 a, .int .i64 o] 73 0
 have q1 := World.cell?_alloc_new w #[.int .i64 x, .int .i64 a, .int .i64 o] 73 1
 simp only [List.getElem?_toArray, List.getElem?_cons_zero, List.getElem?_cons_succ] at q0 q1
 have HC := hide compare_ok
 have HO := hide or_ok
 clear h0 h1
 have HB := hide F1
 clear F1
 unfold ptr plV plO at *
 rw [Array.append_empty]
 go_enter Tryz.func121, Tryz.ntmps121
 go_upto_region 1 with (fail)
 generalize hW : w.alloc (.cells #[.int .i64 x, .int .i64 a, .int .i64 o] 73) = W at *
 generalize hp : w.heap.size = pb at *
 go_region_held3 (fun w' => w'.cell? ⟨b, 0, none⟩ = some (.int .i64 n0) ∧ w'.cell? ⟨b, 1, none⟩ = some (.int .i64 a0) ∧ w'.cell? ⟨pb, 0, none⟩ = some (.int .i64 x) ∧ w'.cell? ⟨pb, 1, none⟩ = some (.int .i64 a)) (go_keep) ((first | (go_at_call 113; refine ((unhide HC) _ _ _).mono ?_; rintro ev w3 ⟨rfl, rfl⟩) | (go_at_call 122; refine ((unhide HO) _ _ (cmpv n0 x) (cmpv a0 a) _ (World.cell?_alloc_new _ _ _ 0) (World.cell?_alloc_new _ _ _ 1)).mono ?_; rintro ev w3 ⟨rfl, rfl⟩)))
 go_wp2
 go_ret
 exact ⟨rfl, (ballo (by rw [← hp] at HB; exact unhide HB) _).drew⟩
end Sb
end Go.Proofs.YtfefehkapffljaaGreatDoor
namespace Go.Proofs.YtfefehkapffljaaGreatDoor
open Go.RowKit
namespace Sb
open Fr Bd Zn Dz
def cm (s : Sl) (x a : Int) : Int := orv (cmpv s.nd x) (cmpv s.at_ a)
def Slabs (w : World) (q : Option Addr) (n : Nat) (B : Nat → Nat) (X : Nat → Sl) : Prop := ∀ i, i < n → ∃ g, q = some ⟨g, 0, none⟩ ∧ g < w.heap.size ∧ w.cell? ⟨g, i, none⟩ = some (ptr (B i)) ∧ B i < w.heap.size ∧ w.cell? ⟨B i, 0, none⟩ = some (.int .i64 (X i).nd) ∧ w.cell? ⟨B i, 1, none⟩ = some (.int .i64 (X i).at_)
theorem Slabs.b {w w' : World} {q : Option Addr} {n : Nat} {B : Nat → Nat} {X : Nat → Sl} (h : Slabs w q n B X) (hb : Below w.heap.size w w') : Slabs w' q n B X := fun i hi => by
 obtain ⟨g, e, h1, h2, h3, h4, h5⟩ := h i hi
 exact ⟨g, e, Nat.lt_of_lt_of_le h1 hb.size, (hb.cell (p := ⟨g, i, none⟩) h1).trans h2, Nat.lt_of_lt_of_le h3 hb.size, (hb.cell (p := ⟨B i, 0, none⟩) h3).trans h4, (hb.cell (p := ⟨B i, 1, none⟩) h3).trans h5⟩
theorem addc2_ok (b : Nat) (s : Sl) (x a o : Int) (w : World) (h0 : w.cell? ⟨b, 0, none⟩ = some (.int .i64 s.nd)) (h1 : w.cell? ⟨b, 1, none⟩ = some (.int .i64 s.at_)) :
   Calls Tryz.prog 121 (#[.pointer (some ⟨b, 0, none⟩), .agg #[.int .i64 x, .int .i64 a, .int .i64 o]] ++ #[]) w fun ev w' => ev = .returned (.int .i64 (cm s x a)) ∧ Below w.heap.size w w' := addc_ok b s.nd s.at_ x a o w h0 h1
def BsR (x a : Int) (X : Nat → Sl) (n : Nat) (w : World) (ev : Ending) (w' : World) : Prop := ∃ (k : Nat) (f : Bool), ev = .returned (.tuple #[.int .i64 k, .bool f]) ∧ (k ≤ n ∧ (∀ t, t < k → cm (X t) x a < 0) ∧ ∀ t, k ≤ t → t < n → 0 ≤ cm (X t) x a) ∧ Below w.heap.size w w'
set_option maxRecDepth 100000 in
set_option maxHeartbeats 8000000 in
theorem bs_ok (q : Option Addr) (n c : Nat) (B : Nat → Nat) (X : Nat → Sl) (x a o : Int) (w : World) (hz : Slabs w q n B X) (hn : n ≤ 100000) (hmono : ∀ i j, i ≤ j → j < n → cm (X j) x a < 0 → cm (X i) x a < 0) :
   Calls Tryz.prog 120 #[.slice q n c, plV x a o, .func (.func 121) #[] #[]] w fun ev w' => BsR x a X n w ev w' := by
 have F1 := ballo (Below.refl w.heap.size w) (plO x a o)
 have q0 := World.cell?_alloc_new w #[.int .i64 x, .int .i64 a, .int .i64 o] 73 0
 have q1 := World.cell?_alloc_new w #[.int .i64 x, .int .i64 a, .int .i64 o] 73 1
 have q2 := World.cell?_alloc_new w #[.int .i64 x, .int .i64 a, .int .i64 o] 73 2
 simp only [List.getElem?_toArray, List.getElem?_cons_zero, List.getElem?_cons_succ] at q0 q1 q2
 have HZ := hide hz
 have HM := hide hmono
 have HF := hide F1
 clear hz hmono F1
 have hsz : (w.alloc (.cells #[.int .i64 x, .int .i64 a, .int .i64 o] 73)).heap.size = w.heap.size + 1 := by simp
 unfold plV plO at *
 go_enter Tryz.func120, Tryz.ntmps120
 go_upto_region 1 with (fail)
 generalize w.alloc (.cells #[.int .i64 x, .int .i64 a, .int .i64 o] 73) = W at *
 have HQ : Hid (∀ W', Below w.heap.size w W' → Below W.heap.size W W' → W'.cell? ⟨w.heap.size, 0, none⟩ = some (.int .i64 x) ∧ W'.cell? ⟨w.heap.size, 1, none⟩ = some (.int .i64 a) ∧ W'.cell? ⟨w.heap.size, 2, none⟩ = some (.int .i64 o)) := fun W' _ hb =>
   ⟨(hb.cell (p := ⟨w.heap.size, 0, none⟩) (by rw [hsz]; simp)).trans q0, (hb.cell (p := ⟨w.heap.size, 1, none⟩) (by rw [hsz]; simp)).trans q1, (hb.cell (p := ⟨w.heap.size, 2, none⟩) (by rw [hsz]; simp)).trans q2⟩
 clear q0 q1 q2
 go_wp2_with fail
 go_loopg [9, 10] n (fun kx s9 s10 wr => ∃ lo hi : Nat, s9 = .int .i64 lo ∧ s10 = .int .i64 hi ∧ lo ≤ hi ∧ hi ≤ n ∧ hi - lo ≤ kx ∧ Hid (Below W.heap.size W wr) ∧ Hid ((∀ t, t < lo → cm (X t) x a < 0) ∧ (∀ t, hi ≤ t → t < n → 0 ≤ cm (X t) x a)))
 case atStart => exact ⟨0, n, rfl, rfl, Nat.zero_le _, Nat.le_refl _, by omega, Below.refl _ _, fun t ht => absurd ht (Nat.not_lt_zero _), fun t h1 h2 => by omega⟩
 case round =>
   obtain ⟨lo, hi, rfl, rfl, hlh, hin, hg, S1, I⟩ := hrel
   by_cases hlt : lo < hi
   · obtain ⟨g, rfl, hgl, c0, hBl, c1, c2⟩ := (unhide HZ) ((lo + hi) / 2) (by omega)
     have E : Below w.heap.size w wr := btr (unhide HF) (unhide S1)
     obtain ⟨b0, b1, b2⟩ := (unhide HQ) wr E (unhide S1)
     have HA := hide (fun w1 (hb : Below wr.heap.size wr w1) => addc2_ok (B ((lo + hi) / 2)) (X ((lo + hi) / 2)) x a o w1 ((hb.cell (p := ⟨B ((lo + hi) / 2), 0, none⟩) (Nat.lt_of_lt_of_le hBl E.size)).trans ((E.cell (p := ⟨B ((lo + hi) / 2), 0, none⟩) hBl).trans c1)) ((hb.cell (p := ⟨B ((lo + hi) / 2), 1, none⟩) (Nat.lt_of_lt_of_le hBl E.size)).trans ((E.cell (p := ⟨B ((lo + hi) / 2), 1, none⟩) hBl).trans c2)))
     have e0 := (E.cell (p := ⟨g, (lo + hi) / 2, none⟩) hgl).trans c0
     have hgr : g < wr.heap.size := Nat.lt_of_lt_of_le hgl E.size
     have hbr : w.heap.size < wr.heap.size := by have := (unhide S1).size; rw [hsz] at this; omega
     have HK := hide (fun w1 (hb : Below wr.heap.size wr w1) => (⟨(hb.cell (p := ⟨g, (lo + hi) / 2, none⟩) hgr).trans e0, (hb.cell (p := ⟨w.heap.size, 0, none⟩) hbr).trans b0, (hb.cell (p := ⟨w.heap.size, 1, none⟩) hbr).trans b1, (hb.cell (p := ⟨w.heap.size, 2, none⟩) hbr).trans b2⟩ : w1.cell? ⟨g, (lo + hi) / 2, none⟩ = some (ptr (B ((lo + hi) / 2))) ∧ w1.cell? ⟨w.heap.size, 0, none⟩ = some (.int .i64 x) ∧ w1.cell? ⟨w.heap.size, 1, none⟩ = some (.int .i64 a) ∧ w1.cell? ⟨w.heap.size, 2, none⟩ = some (.int .i64 o)))
     clear c0 c1 c2 hBl
     have hmid1 : ((lo : Int) + (hi : Int)) / 2 = (((lo + hi) / 2 : Nat) : Int) := by omega
     have hm0 : (0 : Int) ≤ (((lo + hi) / 2 : Nat) : Int) := by omega
     have hm1 : ((((lo + hi) / 2 : Nat) : Int)) < n := by omega
     have hmlo : lo ≤ (lo + hi) / 2 := by omega
     have hmhi : (lo + hi) / 2 < hi := by omega
     generalize hmd : (lo + hi) / 2 = md at *
     generalize hy : cm (X md) x a = y at *
     generalize B md = bm at *
     have HY := hide hy
     have HMD := hide hmd
     clear hy hmd
     unfold ptr at *
     go_wp2_with fail
     go_region_held3 (fun w' => w'.cell? ⟨g, md, none⟩ = some (.pointer (some ⟨bm, 0, none⟩)) ∧ w'.cell? ⟨w.heap.size, 0, none⟩ = some (.int .i64 x) ∧ w'.cell? ⟨w.heap.size, 1, none⟩ = some (.int .i64 a) ∧ w'.cell? ⟨w.heap.size, 2, none⟩ = some (.int .i64 o)) ((first | (go_keep; done) | (exact (unhide HK) _ (by assumption)))) ((go_at_call 121; refine ((unhide HA) _ (drw wr)).mono ?_; rintro ev w3 ⟨rfl, b3⟩; have f3 : Below wr.heap.size wr w3 := bd b3))
     have S3 := hide (btr (unhide S1) f3)
     clear HA HK b0 b1 b2 e0 E b3 f3
     by_cases hyx : y < 0
     · have I2 : Hid ((∀ t, t < md + 1 → cm (X t) x a < 0) ∧ (∀ t, hi ≤ t → t < n → 0 ≤ cm (X t) x a)) := ⟨fun t ht => (unhide HM) t md (by omega) (by omega) (by rw [unhide HY]; exact hyx), (unhide I).2⟩
       go_wp2
       go_roundg (hi - (md + 1))
       case measure => omega
       case rel => exact ⟨md + 1, hi, by go_num, rfl, by omega, hin, Nat.le_refl _, S3, I2⟩
     · have I2 : Hid ((∀ t, t < lo → cm (X t) x a < 0) ∧ (∀ t, md ≤ t → t < n → 0 ≤ cm (X t) x a)) := ⟨(unhide I).1, fun t ht htn => Int.not_lt.1 fun hc => by have := (unhide HM) md t ht htn hc; rw [unhide HY] at this; exact hyx this⟩
       go_wp2
       go_roundg (md - lo)
       case measure => omega
       case rel => exact ⟨lo, md, rfl, rfl, by omega, by omega, Nat.le_refl _, S3, I2⟩
   · obtain rfl : hi = lo := by omega
     have RES : Hid (∀ (f : Bool) w', Below wr.heap.size wr w' → BsR x a X n w (.returned (.tuple #[.int .i64 (hi : Int), .bool f])) w') := fun f w' hb => ⟨hi, f, rfl, ⟨hin, (unhide I).1, (unhide I).2⟩, btr (btr (unhide HF) (unhide S1)) hb⟩
     by_cases hn' : hi < n
     · obtain ⟨g, rfl, hgl, c0, hBl, c1, c2⟩ := (unhide HZ) hi hn'
       have E : Below w.heap.size w wr := btr (unhide HF) (unhide S1)
       obtain ⟨b0, b1, b2⟩ := (unhide HQ) wr E (unhide S1)
       have HA := hide (fun w1 (hb : Below wr.heap.size wr w1) => addc2_ok (B hi) (X hi) x a o w1 ((hb.cell (p := ⟨B hi, 0, none⟩) (Nat.lt_of_lt_of_le hBl E.size)).trans ((E.cell (p := ⟨B hi, 0, none⟩) hBl).trans c1)) ((hb.cell (p := ⟨B hi, 1, none⟩) (Nat.lt_of_lt_of_le hBl E.size)).trans ((E.cell (p := ⟨B hi, 1, none⟩) hBl).trans c2)))
       have e0 := (E.cell (p := ⟨g, hi, none⟩) hgl).trans c0
       have hgr : g < wr.heap.size := Nat.lt_of_lt_of_le hgl E.size
       have hbr : w.heap.size < wr.heap.size := by have := (unhide S1).size; rw [hsz] at this; omega
       have HK := hide (fun w1 (hb : Below wr.heap.size wr w1) => (⟨(hb.cell (p := ⟨g, hi, none⟩) hgr).trans e0, (hb.cell (p := ⟨w.heap.size, 0, none⟩) hbr).trans b0, (hb.cell (p := ⟨w.heap.size, 1, none⟩) hbr).trans b1, (hb.cell (p := ⟨w.heap.size, 2, none⟩) hbr).trans b2⟩ : w1.cell? ⟨g, hi, none⟩ = some (ptr (B hi)) ∧ w1.cell? ⟨w.heap.size, 0, none⟩ = some (.int .i64 x) ∧ w1.cell? ⟨w.heap.size, 1, none⟩ = some (.int .i64 a) ∧ w1.cell? ⟨w.heap.size, 2, none⟩ = some (.int .i64 o)))
       clear c0 c1 c2 hBl
       have hm0 : (0 : Int) ≤ (hi : Int) := by omega
       have hm1 : (hi : Int) < n := by omega
       generalize cm (X hi) x a = y at *
       generalize B hi = bm at *
       unfold ptr at *
       go_wp2_with fail
       go_region_held3 (fun w' => w'.cell? ⟨g, hi, none⟩ = some (.pointer (some ⟨bm, 0, none⟩)) ∧ w'.cell? ⟨w.heap.size, 0, none⟩ = some (.int .i64 x) ∧ w'.cell? ⟨w.heap.size, 1, none⟩ = some (.int .i64 a) ∧ w'.cell? ⟨w.heap.size, 2, none⟩ = some (.int .i64 o)) ((first | (go_keep; done) | (exact (unhide HK) _ (by assumption)))) ((go_at_call 121; refine ((unhide HA) _ (drw wr)).mono ?_; rintro ev w3 ⟨rfl, b3⟩; have f3 : Below wr.heap.size wr w3 := bd b3))
       go_wp2
       go_ret2
       exact (unhide RES) _ _ f3
     · have hm1 : decide ((hi : Int) < n) = false := by simp; omega
       go_wp2_with fail
       go_quiet (fail)
       go_wp2
       go_ret2
       exact (unhide RES) _ _ (bdN (Below.refl _ _) _)
end Sb
end Go.Proofs.YtfefehkapffljaaGreatDoor
namespace Go.Proofs.YtfefehkapffljaaGreatDoor
open Go.RowKit Go.Maps
namespace Sb
open Fr Bd Zn Dz
theorem cm_lt (s : Sl) (x : Nat) (a : Int) : cm s x a < 0 ↔ lt s x a := by
 unfold cm orv cmpv lt
 by_cases h1 : (s.nd : Int) < x
 · simp [h1]; omega
 · by_cases h2 : (x : Int) < s.nd
   · simp [h1, h2]; omega
   · by_cases h3 : s.at_ < a
     · simp [h1, h2, h3]; omega
     · by_cases h4 : a < s.at_
       · simp [h1, h2, h3, h4]; omega
       · simp [h1, h2, h3, h4]; omega
theorem cm_mono {ss : List Sl} (hs : Sorted ss) (x : Nat) (a : Int) : ∀ i j, i ≤ j → j < ss.length → cm (ss.getD j default) x a < 0 → cm (ss.getD i default) x a < 0 := by
 intro i j hij hj h
 rcases Nat.eq_or_lt_of_le hij with rfl | hlt
 · exact h
 · have hi : i < ss.length := by omega
   have e1 := List.getElem?_eq_getElem hi
   have e2 := List.getElem?_eq_getElem hj
   rw [getD_at e2] at h
   rw [getD_at e1]
   rw [cm_lt] at h ⊢
   exact lt_trans (sorted_at hs e1 e2 hlt) h
theorem pos_of {ss : List Sl} {x : Nat} {a : Int} {k : Nat} (h : k ≤ ss.length ∧ (∀ t, t < k → cm (ss.getD t default) x a < 0) ∧ ∀ t, k ≤ t → t < ss.length → 0 ≤ cm (ss.getD t default) x a) : Pos ss x a k := by
 refine ⟨h.1, fun t s ht hs => ?_, fun t s ht hs hl => ?_⟩
 · have := h.2.1 t ht
   rw [getD_at hs, cm_lt] at this
   exact this
 · have := h.2.2 t ht (List.getElem?_eq_some_iff.mp hs).1
   rw [getD_at hs] at this
   rw [← cm_lt] at hl
   omega
theorem ptrl_one (bs : List Nat) : ∀ v ∈ ptrl bs, v.oneCell' = true := by
 intro v hv
 obtain ⟨b, _, rfl⟩ := List.mem_map.1 hv
 rfl
section
variable {N0 : Nat} {w w' : World} {c z : Nat} {ly : Ly} {sz : Int} {m : Nat} {bs : List Nat} {ss : List Sl}
theorem DC.slabs (h : DC N0 w c z ly sz m bs ss) {p : Option Addr} {d : Nat} (ho : w.ownsRow N0 116 1 (.slice p bs.length d) bs.length (ptrl bs)) : Slabs w p ss.length (fun i => bs.getD i 0) (fun i => ss.getD i default) := by
 intro i hi
 have hb : i < bs.length := by rw [h.len]; exact hi
 obtain ⟨b, s, e1, e2, e3, e4⟩ := h.slab hi
 rcases ho.2 with ⟨_, h0⟩ | ⟨g, cap, cur, hv, hg, hh, _⟩
 · omega
 · simp only [Value.slice.injEq, true_and] at hv
   obtain ⟨rfl, rfl⟩ := hv
   have hl := ho.lt g rfl
   refine ⟨g, rfl, hl.2, ?_⟩
   simp only [getD_at e1, getD_at e2]
   exact ⟨(ho.cellAt i (by omega)).trans (ptrl_at e1), e3.tg.lt, e3.c0, e3.c1⟩
theorem DC.ins (h : DC N0 w c z ly sz m bs ss) {b k : Nat} {x : Sl} (hp : Pos ss x.nd x.at_ k) (hne : ∀ s ∈ ss, s.nd = x.nd → s.at_ ≠ x.at_) (hok : sok m x) (hb : b ∉ bs) (hbN : N0 ≤ b) (hS : SLm w' b x) (h0 : w'.cell? ⟨c, 0, none⟩ = some (ptr z)) (h1 : w'.cell? ⟨c, 1, none⟩ = some (.int .i64 sz)) {p : Option Addr} {d : Nat}
   (h2 : w'.cell? ⟨c, 2, none⟩ = some (.slice p (bs.length + 1) d)) (ho : w'.ownsRow N0 116 1 (.slice p (bs.length + 1) d) (bs.length + 1) (Sb.ins (ptrl bs) k (ptr b))) (ht : Tag w' c 114) (hcf : ∀ o, w'.frozen? ⟨c, o, none⟩ = false) (hold : ∀ (j b' : Nat) (s : Sl), bs[j]? = some b' → ss[j]? = some s → SLm w' b' s) (hym : LY N0 w' c ly) : DC N0 w' c z ly sz m (Sb.ins bs k b) (Sb.ins ss k x) := by
 have hkb : k ≤ bs.length := by rw [h.len]; exact hp.1
 have hl : (Sb.ins bs k b).length = bs.length + 1 := ins_length _ _ _
 refine ⟨h0, h1, ⟨p, d, by rw [hl]; exact h2, ?_⟩, ht, h.ge, fun b' hb' => ?_, by rw [ins_length, ins_length, h.len], ?_, fun i b' s e1 e2 => ?_, fun s hs => ?_, sorted_ins h.so hp hne, hcf, h.mm, hym⟩
 · rw [hl]
   have e : ptrl (Sb.ins bs k b) = Sb.ins (ptrl bs) k (ptr b) := ins_map _ _ _ _
   rw [e]; exact ho
 · rcases ins_mem.mp hb' with rfl | h'
   · exact hbN
   · exact h.bg b' h'
 · unfold Sb.ins
   rw [List.nodup_append, List.nodup_cons]
   have hn := h.nd
   rw [← List.take_append_drop k bs, List.nodup_append] at hn
   refine ⟨hn.1, ⟨fun hm => hb (List.mem_of_mem_drop hm), hn.2.1⟩, fun y hy y' hy' e => ?_⟩
   subst e
   rcases List.mem_cons.mp hy' with rfl | h'
   · exact hb (List.mem_of_mem_take hy)
   · exact hn.2.2 y hy y h' rfl
 · rw [ins_get _ hkb] at e1
   rw [ins_get _ hp.1] at e2
   split at e1
   · rename_i hlt
     rw [if_pos hlt] at e2
     exact hold i b' s e1 e2
   · rename_i hlt
     rw [if_neg hlt] at e2
     split at e1
     · rename_i he
       rw [if_pos he] at e2
       cases e1; cases e2
       exact hS
     · rename_i he
       rw [if_neg he] at e2
       exact hold (i - 1) b' s e1 e2
 · rcases ins_mem.mp hs with rfl | h'
   · exact hok
   · exact h.ok s h'
end
theorem fz_new (w : World) (cs : Array Value) (t : TypeId) {g : Nat} (hg : w.heap.size = g) (o : Nat) : (w.alloc (.cells cs t)).frozen? ⟨g, o, none⟩ = false := by
 subst hg
 exact World.frozen?_alloc_at cs t w.heap.size o rfl
def AddR (N0 : Nat) (w : World) (c z : Nat) (ly : Ly) (sz : Int) (m : Nat) (bs : List Nat) (ss : List Sl) (x : Nat) (a : Int) (ev : Ending) (w' : World) : Prop :=
 ∃ b k, ev = .returned (ptr b) ∧ Pos ss x a k ∧ w.heap.size ≤ b ∧ DC N0 w' c z ly sz m (Sb.ins bs k b) (Sb.ins ss k ⟨x, a, 0⟩) ∧ Chg [some 114, some 116] N0 w w'
set_option maxRecDepth 100000 in
set_option maxHeartbeats 8000000 in
theorem add_ok (N0 : Nat) (c z : Nat) (ly : Ly) (sz : Int) (m : Nat) (bs : List Nat) (ss : List Sl) (x : Nat) (a : Int) (w : World) (h : DC N0 w c z ly sz m bs ss) (hne : ∀ s ∈ ss, s.nd = x → s.at_ ≠ a) (hx : x < 1000) (ha : 0 ≤ a ∧ a < 256) (hn : ss.length ≤ 10000) :
   Calls Tryz.prog 57 #[ptr c, plV x a 0] w fun ev w' => AddR N0 w c z ly sz m bs ss x a ev w' := by
 have hcl := h.tg.lt
 have F1 := ballo (Below.refl w.heap.size w) (plO x a 0)
 have q0 := World.cell?_alloc_new w #[.int .i64 x, .int .i64 a, .int .i64 0] 73 0
 have q1 := World.cell?_alloc_new w #[.int .i64 x, .int .i64 a, .int .i64 0] 73 1
 have q2 := World.cell?_alloc_new w #[.int .i64 x, .int .i64 a, .int .i64 0] 73 2
 simp only [List.getElem?_toArray, List.getElem?_cons_zero, List.getElem?_cons_succ] at q0 q1 q2
 have hsz : (w.alloc (.cells #[.int .i64 x, .int .i64 a, .int .i64 0] 73)).heap.size = w.heap.size + 1 := by simp
 have HBL : Hid (w.heap.size + 1 ∉ bs) := fun (hm : w.heap.size + 1 ∈ bs) => by
   obtain ⟨i, hi, e⟩ := List.getElem_of_mem hm
   have := (h.sl i _ _ (List.getElem?_eq_getElem hi) (List.getElem?_eq_getElem (by rw [← h.len]; exact hi))).tg.lt
   rw [e] at this
   omega
 have HD := hide h
 have HF1 := hide F1
 clear h F1
 unfold ptr plV plO at *
 go_enter Tryz.func57, Tryz.ntmps57
 go_upto_region 1 with (fail)
 generalize w.alloc (.cells #[.int .i64 x, .int .i64 a, .int .i64 0] 73) = W at *
 go_upto_region 2 with (fail)
 have F2 := ballo (unhide HF1) (.cells #[.int .i64 x, .int .i64 a, .int .i64 0, .int .u64 0] 124)
 have G2 := ballo (Below.refl W.heap.size W) (.cells #[.int .i64 x, .int .i64 a, .int .i64 0, .int .u64 0] 124)
 have r := World.cell?_alloc_new W #[.int .i64 x, .int .i64 a, .int .i64 0, .int .u64 0] 124
 have tb := tag_new W #[.int .i64 x, .int .i64 a, .int .i64 0, .int .u64 0] 124
 have hs2 : (W.alloc (.cells #[.int .i64 x, .int .i64 a, .int .i64 0, .int .u64 0] 124)).heap.size = w.heap.size + 2 := by simp [hsz]
 have r0 := r 0
 have r1 := r 1
 have r2 := r 2
 have r3 := r 3
 have p0 := (G2.cell (p := ⟨w.heap.size, 0, none⟩) (by rw [hsz]; simp)).trans q0
 have p1 := (G2.cell (p := ⟨w.heap.size, 1, none⟩) (by rw [hsz]; simp)).trans q1
 have p2 := (G2.cell (p := ⟨w.heap.size, 2, none⟩) (by rw [hsz]; simp)).trans q2
 simp only [List.getElem?_toArray, List.getElem?_cons_zero, List.getElem?_cons_succ] at r0 r1 r2 r3
 clear q0 q1 q2 r G2
 rw [hsz] at r0 r1 r2 r3 tb
 generalize hW2 : W.alloc (.cells #[.int .i64 x, .int .i64 a, .int .i64 0, .int .u64 0] 124) = W2 at *
 have HS2 : Hid (SLm W2 (w.heap.size + 1) ⟨x, a, 0⟩) := ⟨r0, r1, r2, r3, tb, fun o => by rw [← hW2]; exact fz_new W _ _ hsz o⟩
 clear r0 r1 r2 r3 tb hW2 HF1
 have D2 := (unhide HD).b F2
 obtain ⟨p, d, e2, o2⟩ := D2.c2
 have hSl := D2.slabs o2
 have hnl := D2.len
 have HBS := hide (fun W3 (hb : Below W2.heap.size W2 W3) => bs_ok p ss.length d (fun i => bs.getD i 0) (fun i => ss.getD i default) x a 0 W3 (hSl.b hb) (by omega) (cm_mono D2.so x a))
 have HD2 := hide D2
 have HO2 := hide o2
 have HF2 := hide F2
 clear D2 o2 hSl F2 HD
 rw [hnl] at e2
 unfold plV at *
 have hcl2 : c < W2.heap.size := by omega
 go_region_held3 (fun w' => w'.cell? ⟨c, 2, none⟩ = some (.slice p ss.length d) ∧ w'.cell? ⟨w.heap.size, 0, none⟩ = some (.int .i64 x) ∧ w'.cell? ⟨w.heap.size, 1, none⟩ = some (.int .i64 a) ∧ w'.cell? ⟨w.heap.size, 2, none⟩ = some (.int .i64 0)) ((first | (go_keep; done) | (exact ⟨(Below.cell (by assumption) (p := ⟨c, 2, none⟩) hcl2).trans e2, (Below.cell (by assumption) (p := ⟨w.heap.size, 0, none⟩) (by rw [hs2]; simp)).trans p0, (Below.cell (by assumption) (p := ⟨w.heap.size, 1, none⟩) (by rw [hs2]; simp)).trans p1, (Below.cell (by assumption) (p := ⟨w.heap.size, 2, none⟩) (by rw [hs2]; simp)).trans p2⟩))) ((go_at_call 120; refine ((unhide HBS) _ (drw W2)).mono ?_; rintro ev w3 ⟨k, f, rfl, hk, b3⟩; have f3 : Below W2.heap.size W2 w3 := bd b3))
 have D3 := (unhide HD2).b f3
 have F3 := (unhide HF2).trans (f3.mono (by omega))
 have hS3 := (unhide HS2).b f3
 have o3 := own_b (unhide HO2) f3
 have hw3 : w.heap.size + 2 ≤ w3.heap.size := by have := f3.size; omega
 have G4 := ballo (Below.refl w3.heap.size w3) (.cells #[.pointer (some ⟨w.heap.size + 1, 0, none⟩)] 116)
 have D4 := D3.b G4
 have S4 := hS3.b G4
 have o4 := own_b o3 G4
 rw [hnl] at o4
 have hnew := heap_alloc_new w3 (.cells #[.pointer (some ⟨w.heap.size + 1, 0, none⟩)] 116)
 have hrow : ∀ g o, p = some ⟨g, o, none⟩ → w3.heap.size ≠ g := fun g o e => by
   have := o3.lt g (by rw [e]; rfl)
   omega
 have HIN := hide (insert_own N0 p ss.length d k w3.heap.size (ptrl bs) (ptr (w.heap.size + 1)) _ o4 hk.1 (by omega) (by have := D4.tg.lt; have := D4.ge; omega) hnew hrow (ptrl_one bs) rfl)
 have c2 := (f3.cell (p := ⟨c, 2, none⟩) hcl2).trans e2
 have hne5 : some c ≠ (Value.slice p ss.length d).ownBlock := fun e => by
   rcases o4.2 with ⟨e2, _⟩ | ⟨g, cap, cur, e2, hg, hh, _⟩
   · rw [e2] at e; cases e
   · rw [e2] at e
     simp only [Value.ownBlock, Option.some.injEq] at e
     subst e
     exact D4.tg.ne ⟨cur, _, hh⟩ (by decide) rfl
 have HD4 := hide D4
 have HS4 := hide S4
 have HO4 := hide o4
 have HPos := hide (pos_of hk)
 have hcl3 : c < w3.heap.size := by omega
 have hc4 := (G4.cell (p := ⟨c, 2, none⟩) hcl3).trans c2
 have HF4 := hide (F3.trans (G4.mono (by omega)))
 have HC5 : Hid (∀ w5, (w3.alloc (.cells #[.pointer (some ⟨w.heap.size + 1, 0, none⟩)] 116)).grownBy w5 (Value.slice p ss.length d).ownBlock → w5.cell? ⟨c, 2, none⟩ = some (.slice p ss.length d) ∧ w5.frozen? ⟨c, 2, none⟩ = false) := fun w5 hg => by
   have e := hg.block c D4.tg.lt hne5
   exact ⟨(World.cell?_of_block (a := ⟨c, 2, none⟩) e).trans hc4, (World.frozen?_of_block (a := ⟨c, 2, none⟩) e).trans (D4.cf 2)⟩
 have HN5 := hide hne5
 clear D3 F3 hS3 o3 G4 D4 S4 o4 hnew hk f3 b3 HBS HD2 HO2 HF2 HS2 p0 p1 p2 e2 hne5 hrow hc4
 unfold ptr at *
 go_wp2_with (go_at_call 123; refine (unhide HIN).mono ?_; rintro ev w5 ⟨p', d', rfl, o5, g5⟩; obtain ⟨c5, f5⟩ := (unhide HC5) w5 g5)
 have RES : AddR N0 w c z ly sz m bs ss x a (.returned (.pointer (some ⟨w.heap.size + 1, 0, none⟩))) (w5.setCell ⟨c, 2, none⟩ (.slice p' (ss.length + 1) d')) := by
   have D4 := unhide HD4
   have ge := D4.ge
   have hN4 : N0 ≤ (w3.alloc (.cells #[.pointer (some ⟨w.heap.size + 1, 0, none⟩)] 116)).heap.size := by have := D4.tg.lt; omega
   have hcb : w5.heap[c]? = _ := g5.block c D4.tg.lt (unhide HN5)
   have hcell : ∀ j v, (w3.alloc (.cells #[.pointer (some ⟨w.heap.size + 1, 0, none⟩)] 116)).cell? ⟨c, j, none⟩ = some v → w5.cell? ⟨c, j, none⟩ = some v := fun j v hv => (World.cell?_of_block (a := ⟨c, j, none⟩) hcb).trans hv
   have htag5 := D4.tg.blk hcb
   have hsl : ∀ b' s, SLm (w3.alloc (.cells #[.pointer (some ⟨w.heap.size + 1, 0, none⟩)] 116)) b' s → SLm (w5.setCell ⟨c, 2, none⟩ (.slice p' (ss.length + 1) d')) b' s := fun b' s hs => by
     have hne1 : some b' ≠ (Value.slice p ss.length d).ownBlock := fun e => by
       have o4 := unhide HO4
       rcases o4.2 with ⟨e2, _⟩ | ⟨g, cap, cur, e2, hg, hh, _⟩
       · rw [e2] at e; cases e
       · rw [e2] at e
         simp only [Value.ownBlock, Option.some.injEq] at e
         subst e
         exact hs.tg.ne ⟨cur, _, hh⟩ (by decide) rfl
     have hne2 : b' ≠ c := hs.tg.ne D4.tg (by decide)
     exact hs.same ((Below.heap_setCell _ _ _ _ hne2).trans (g5.block b' hs.tg.lt hne1))
   have o6 : (w5.setCell ⟨c, 2, none⟩ (.slice p' (ss.length + 1) d')).ownsRow N0 116 1 (.slice p' (ss.length + 1) d') (ss.length + 1) (Sb.ins (ptrl bs) k (ptr (w.heap.size + 1))) :=
     own_same o5 ((Chg.set htag5 ge 2 _).toSame (us := [116]) (by simp)) (by simp)
   refine ⟨w.heap.size + 1, k, rfl, unhide HPos, by omega, ?_, ?_⟩
   · refine DC.ins (unhide HD4) (unhide HPos) hne ⟨ha.1, ha.2, Nat.two_pow_pos _, hx⟩ (unhide HBL) (by omega) (hsl _ _ (unhide HS4)) ((cso (by simp)).trans (hcell 0 _ D4.c0)) ((cso (by simp)).trans (hcell 1 _ D4.c1)) (p := p') (d := d') ?_ (by rw [hnl]; exact o6) (htag5.set _ _) (fun o => ?_) (fun j b' s e1 e2 => hsl b' s (D4.sl j b' s e1 e2)) (D4.ym.set ((cso (by simp)).trans (hcell 3 _ D4.ym.c3)) ((((Chg.grown g5 (unhide HO4)).mono (by simp) (Nat.le_refl _)).trans ((Chg.set htag5 ge 2 _).mono (by simp) (Nat.le_refl _)) : Chg [some 114, some 116] N0 _ _).ly (by simp) D4.ym))
     · rw [hnl]; exact css c5
     · rw [World.frozen?_setCell]
       exact (World.frozen?_of_block (a := ⟨c, o, none⟩) hcb).trans (D4.cf o)
   · exact ((Chg.below (unhide HF4)).trans ((Chg.grown g5 (unhide HO4)).mono (by simp) (Nat.le_refl _))).trans ((Chg.set htag5 ge 2 _).mono (by simp) (Nat.le_refl _))
 go_ret
 exact RES
end Sb
end Go.Proofs.YtfefehkapffljaaGreatDoor
