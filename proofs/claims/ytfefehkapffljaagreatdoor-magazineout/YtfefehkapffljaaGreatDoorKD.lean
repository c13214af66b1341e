/- cmp.Or of two; how a slab lies to a place: the closure of package slab's add · The library's BinarySearchFunc over a cache's slabs, by contract. -/
import Derived.Test.YtfefehkapffljaaGreatDoorKA
import Derived.Test.YtfefehkapffljaaGreatDoorGQ
import Derived.Test.YtfefehkapffljaaGreatDoorGD
import Derived.Test.YtfefehkapffljaaGreatDoorGM
import Derived.BigQuiet
import Derived.Deep.RegionHeld3
import Derived.Deep.LoopGhost
namespace Go.Proofs.YtfefehkapffljaaGreatDoor
open Go.RowKit
namespace Sb
open Fr Bd Zn Dz
def orv (a b : Int) : Int := if a = 0 then b else a
set_option maxHeartbeats 2000000 in
theorem or_ok (vb c : Nat) (a b : Int) (w : World) (h0 : w.cell? ⟨vb, 0, none⟩ = some (.int .i64 a)) (h1 : w.cell? ⟨vb, 1, none⟩ = some (.int .i64 b)) :
    Calls Tryz.prog 122 #[.slice (some ⟨vb, 0, none⟩) 2 c] w fun ev w' => ev = .returned (.int .i64 (orv a b)) ∧ w' = w := by
  unfold orv
  go_enter Tryz.func122, Tryz.ntmps122
  go_wp2_with fail
  go_loopw [8] (fun s wr => ∃ i : Nat, s = .int .i64 i ∧ i ≤ 2 ∧ wr = w ∧ (1 ≤ i → a = 0) ∧ (2 ≤ i → b = 0)) (fun s _ => 2 - (RowKit.intOf s).toNat)
  case atStart => exact ⟨0, rfl, by omega, rfl, by omega, by omega⟩
  case round =>
    obtain ⟨i, rfl, hi, rfl, ha, hb⟩ := hrel
    rcases (show i = 0 ∨ i = 1 ∨ i = 2 by omega) with rfl | rfl | rfl
    · by_cases h : a = 0
      · subst h
        go_wp2
        go_roundw
        case rel => exact ⟨1, by go_num, by omega, by simp⟩
        case measure => simp [RowKit.intOf]
      · have d : (a != 0) = true := by simpa using h
        go_wp2
        go_ret
        exact ⟨by simp, rfl⟩
    · have ha := ha (by omega)
      subst ha
      by_cases h : b = 0
      · subst h
        go_wp2
        go_roundw
        case rel => exact ⟨2, by go_num, by omega, by simp⟩
        case measure => simp [RowKit.intOf]
      · have d : (b != 0) = true := by simpa using h
        go_wp2
        go_ret
        exact ⟨by simp, rfl⟩
    · have ha := ha (by omega)
      have hb := hb (by omega)
      subst ha hb
      go_wp2
      go_ret
      exact ⟨by simp, rfl⟩
set_option maxRecDepth 100000 in
set_option maxHeartbeats 4000000 in
theorem addc_ok (b : Nat) (n0 a0 x a o : Int) (w : World) (h0 : w.cell? ⟨b, 0, none⟩ = some (.int .i64 n0)) (h1 : w.cell? ⟨b, 1, none⟩ = some (.int .i64 a0)) :
    Calls Tryz.prog 121 (#[ptr b, plV x a o] ++ #[]) w fun ev w' => ev = .returned (.int .i64 (orv (cmpv n0 x) (cmpv a0 a))) ∧ Below w.heap.size w w' := by
  have hb := World.block_lt_of_cell? w _ h0
  simp only at hb
  have F1 := ballo (Below.refl w.heap.size w) (plO x a o)
  have k0 := (F1.cell (p := ⟨b, 0, none⟩) hb).trans h0
  have k1 := (F1.cell (p := ⟨b, 1, none⟩) hb).trans h1
  have q0 := World.cell?_alloc_new w #[.int .i64 x, .int .i64 a, .int .i64 o] 73 0
  have q1 := World.cell?_alloc_new w #[.int .i64 x, .int .i64 a, .int .i64 o] 73 1
  simp only [List.getElem?_toArray, List.getElem?_cons_zero, List.getElem?_cons_succ] at q0 q1
  have HC := hide compare_ok
  have HO := hide or_ok
  clear h0 h1
  have HB := hide F1
  clear F1
  unfold ptr plV plO at *
  rw [Array.append_empty]
  go_enter Tryz.func121, Tryz.ntmps121
  go_upto_region 1 with (fail)
  generalize hW : w.alloc (.cells #[.int .i64 x, .int .i64 a, .int .i64 o] 73) = W at *
  generalize hp : w.heap.size = pb at *
  go_region_held3 (fun w' => w'.cell? ⟨b, 0, none⟩ = some (.int .i64 n0) ∧ w'.cell? ⟨b, 1, none⟩ = some (.int .i64 a0) ∧ w'.cell? ⟨pb, 0, none⟩ = some (.int .i64 x) ∧ w'.cell? ⟨pb, 1, none⟩ = some (.int .i64 a)) (go_keep) ((first | (go_at_call 113; refine ((unhide HC) _ _ _).mono ?_; rintro ev w3 ⟨rfl, rfl⟩) | (go_at_call 122; refine ((unhide HO) _ _ (cmpv n0 x) (cmpv a0 a) _ (World.cell?_alloc_new _ _ _ 0) (World.cell?_alloc_new _ _ _ 1)).mono ?_; rintro ev w3 ⟨rfl, rfl⟩)))
  go_wp2
  go_ret
  exact ⟨rfl, (ballo (by rw [← hp] at HB; exact unhide HB) _).drew⟩
end Sb
end Go.Proofs.YtfefehkapffljaaGreatDoor
namespace Go.Proofs.YtfefehkapffljaaGreatDoor
open Go.RowKit
namespace Sb
open Fr Bd Zn Dz
/-- A slab against a place. -/
def cm (s : Sl) (x a : Int) : Int := orv (cmpv s.nd x) (cmpv s.at_ a)
theorem eg89 : ∀ args w, (callFunc 121 args).run Tryz.prog w = .ok (.enter 121 args) w := enters_of Tryz.func121 (by kernel_rfl) rfl
/-- Slabs that lie in a slice of pointers. -/
def Slabs (w : World) (q : Option Addr) (n : Nat) (B : Nat → Nat) (X : Nat → Sl) : Prop := ∀ i, i < n → ∃ g, q = some ⟨g, 0, none⟩ ∧ g < w.heap.size ∧ w.cell? ⟨g, i, none⟩ = some (ptr (B i)) ∧ B i < w.heap.size ∧ w.cell? ⟨B i, 0, none⟩ = some (.int .i64 (X i).nd) ∧ w.cell? ⟨B i, 1, none⟩ = some (.int .i64 (X i).at_)
theorem Slabs.b {w w' : World} {q : Option Addr} {n : Nat} {B : Nat → Nat} {X : Nat → Sl} (h : Slabs w q n B X) (hb : Below w.heap.size w w') : Slabs w' q n B X := fun i hi => by
  obtain ⟨g, e, h1, h2, h3, h4, h5⟩ := h i hi
  exact ⟨g, e, Nat.lt_of_lt_of_le h1 hb.size, (hb.cell (p := ⟨g, i, none⟩) h1).trans h2, Nat.lt_of_lt_of_le h3 hb.size, (hb.cell (p := ⟨B i, 0, none⟩) h3).trans h4, (hb.cell (p := ⟨B i, 1, none⟩) h3).trans h5⟩
theorem addc2_ok (b : Nat) (s : Sl) (x a o : Int) (w : World) (h0 : w.cell? ⟨b, 0, none⟩ = some (.int .i64 s.nd)) (h1 : w.cell? ⟨b, 1, none⟩ = some (.int .i64 s.at_)) :
    Calls Tryz.prog 121 (#[.pointer (some ⟨b, 0, none⟩), .agg #[.int .i64 x, .int .i64 a, .int .i64 o]] ++ #[]) w fun ev w' => ev = .returned (.int .i64 (cm s x a)) ∧ Below w.heap.size w w' := addc_ok b s.nd s.at_ x a o w h0 h1
/-- Where a place belongs. -/
def BsR (x a : Int) (X : Nat → Sl) (n : Nat) (w : World) (ev : Ending) (w' : World) : Prop := ∃ (k : Nat) (f : Bool), ev = .returned (.tuple #[.int .i64 k, .bool f]) ∧ (k ≤ n ∧ (∀ t, t < k → cm (X t) x a < 0) ∧ ∀ t, k ≤ t → t < n → 0 ≤ cm (X t) x a) ∧ Below w.heap.size w w'
set_option maxRecDepth 100000 in
set_option maxHeartbeats 8000000 in
theorem bs_ok (q : Option Addr) (n c : Nat) (B : Nat → Nat) (X : Nat → Sl) (x a o : Int) (w : World) (hz : Slabs w q n B X) (hn : n ≤ 100000) (hmono : ∀ i j, i ≤ j → j < n → cm (X j) x a < 0 → cm (X i) x a < 0) :
    Calls Tryz.prog 120 #[.slice q n c, plV x a o, .func (.func 121) #[] #[]] w fun ev w' => BsR x a X n w ev w' := by
  have F1 := ballo (Below.refl w.heap.size w) (plO x a o)
  have q0 := World.cell?_alloc_new w #[.int .i64 x, .int .i64 a, .int .i64 o] 73 0
  have q1 := World.cell?_alloc_new w #[.int .i64 x, .int .i64 a, .int .i64 o] 73 1
  have q2 := World.cell?_alloc_new w #[.int .i64 x, .int .i64 a, .int .i64 o] 73 2
  simp only [List.getElem?_toArray, List.getElem?_cons_zero, List.getElem?_cons_succ] at q0 q1 q2
  have HZ := hide hz
  have HM := hide hmono
  have HF := hide F1
  clear hz hmono F1
  have hsz : (w.alloc (.cells #[.int .i64 x, .int .i64 a, .int .i64 o] 73)).heap.size = w.heap.size + 1 := by simp
  unfold plV plO at *
  go_enter Tryz.func120, Tryz.ntmps120
  go_upto_region 1 with (fail)
  generalize w.alloc (.cells #[.int .i64 x, .int .i64 a, .int .i64 o] 73) = W at *
  have HQ : Hid (∀ W', Below w.heap.size w W' → Below W.heap.size W W' → W'.cell? ⟨w.heap.size, 0, none⟩ = some (.int .i64 x) ∧ W'.cell? ⟨w.heap.size, 1, none⟩ = some (.int .i64 a) ∧ W'.cell? ⟨w.heap.size, 2, none⟩ = some (.int .i64 o)) := fun W' _ hb =>
    ⟨(hb.cell (p := ⟨w.heap.size, 0, none⟩) (by rw [hsz]; simp)).trans q0, (hb.cell (p := ⟨w.heap.size, 1, none⟩) (by rw [hsz]; simp)).trans q1, (hb.cell (p := ⟨w.heap.size, 2, none⟩) (by rw [hsz]; simp)).trans q2⟩
  clear q0 q1 q2
  go_wp2_with fail
  go_loopg [9, 10] n (fun kx s9 s10 wr => ∃ lo hi : Nat, s9 = .int .i64 lo ∧ s10 = .int .i64 hi ∧ lo ≤ hi ∧ hi ≤ n ∧ hi - lo ≤ kx ∧ Hid (Below W.heap.size W wr) ∧ Hid ((∀ t, t < lo → cm (X t) x a < 0) ∧ (∀ t, hi ≤ t → t < n → 0 ≤ cm (X t) x a)))
  case atStart => exact ⟨0, n, rfl, rfl, Nat.zero_le _, Nat.le_refl _, by omega, Below.refl _ _, fun t ht => absurd ht (Nat.not_lt_zero _), fun t h1 h2 => by omega⟩
  case round =>
    obtain ⟨lo, hi, rfl, rfl, hlh, hin, hg, S1, I⟩ := hrel
    by_cases hlt : lo < hi
    · obtain ⟨g, rfl, hgl, c0, hBl, c1, c2⟩ := (unhide HZ) ((lo + hi) / 2) (by omega)
      have E : Below w.heap.size w wr := btr (unhide HF) (unhide S1)
      obtain ⟨b0, b1, b2⟩ := (unhide HQ) wr E (unhide S1)
      have HA := hide (fun w1 (hb : Below wr.heap.size wr w1) => addc2_ok (B ((lo + hi) / 2)) (X ((lo + hi) / 2)) x a o w1 ((hb.cell (p := ⟨B ((lo + hi) / 2), 0, none⟩) (Nat.lt_of_lt_of_le hBl E.size)).trans ((E.cell (p := ⟨B ((lo + hi) / 2), 0, none⟩) hBl).trans c1)) ((hb.cell (p := ⟨B ((lo + hi) / 2), 1, none⟩) (Nat.lt_of_lt_of_le hBl E.size)).trans ((E.cell (p := ⟨B ((lo + hi) / 2), 1, none⟩) hBl).trans c2)))
      have e0 := (E.cell (p := ⟨g, (lo + hi) / 2, none⟩) hgl).trans c0
      have hgr : g < wr.heap.size := Nat.lt_of_lt_of_le hgl E.size
      have hbr : w.heap.size < wr.heap.size := by have := (unhide S1).size; rw [hsz] at this; omega
      have HK := hide (fun w1 (hb : Below wr.heap.size wr w1) => (⟨(hb.cell (p := ⟨g, (lo + hi) / 2, none⟩) hgr).trans e0, (hb.cell (p := ⟨w.heap.size, 0, none⟩) hbr).trans b0, (hb.cell (p := ⟨w.heap.size, 1, none⟩) hbr).trans b1, (hb.cell (p := ⟨w.heap.size, 2, none⟩) hbr).trans b2⟩ : w1.cell? ⟨g, (lo + hi) / 2, none⟩ = some (ptr (B ((lo + hi) / 2))) ∧ w1.cell? ⟨w.heap.size, 0, none⟩ = some (.int .i64 x) ∧ w1.cell? ⟨w.heap.size, 1, none⟩ = some (.int .i64 a) ∧ w1.cell? ⟨w.heap.size, 2, none⟩ = some (.int .i64 o)))
      clear c0 c1 c2 hBl
      have hmid1 : ((lo : Int) + (hi : Int)) / 2 = (((lo + hi) / 2 : Nat) : Int) := by omega
      have hm0 : (0 : Int) ≤ (((lo + hi) / 2 : Nat) : Int) := by omega
      have hm1 : ((((lo + hi) / 2 : Nat) : Int)) < n := by omega
      have hmlo : lo ≤ (lo + hi) / 2 := by omega
      have hmhi : (lo + hi) / 2 < hi := by omega
      generalize hmd : (lo + hi) / 2 = md at *
      generalize hy : cm (X md) x a = y at *
      generalize B md = bm at *
      have HY := hide hy
      have HMD := hide hmd
      clear hy hmd
      unfold ptr at *
      go_wp2_with fail
      go_region_held3 (fun w' => w'.cell? ⟨g, md, none⟩ = some (.pointer (some ⟨bm, 0, none⟩)) ∧ w'.cell? ⟨w.heap.size, 0, none⟩ = some (.int .i64 x) ∧ w'.cell? ⟨w.heap.size, 1, none⟩ = some (.int .i64 a) ∧ w'.cell? ⟨w.heap.size, 2, none⟩ = some (.int .i64 o)) ((first | (go_keep; done) | (exact (unhide HK) _ (by assumption)))) ((go_at_call 121; refine ((unhide HA) _ (drw wr)).mono ?_; rintro ev w3 ⟨rfl, b3⟩; have f3 : Below wr.heap.size wr w3 := bd b3))
      have S3 := hide (btr (unhide S1) f3)
      clear HA HK b0 b1 b2 e0 E b3 f3
      by_cases hyx : y < 0
      · have I2 : Hid ((∀ t, t < md + 1 → cm (X t) x a < 0) ∧ (∀ t, hi ≤ t → t < n → 0 ≤ cm (X t) x a)) := ⟨fun t ht => (unhide HM) t md (by omega) (by omega) (by rw [unhide HY]; exact hyx), (unhide I).2⟩
        go_wp2
        go_roundg (hi - (md + 1))
        case measure => omega
        case rel => exact ⟨md + 1, hi, by go_num, rfl, by omega, hin, Nat.le_refl _, S3, I2⟩
      · have I2 : Hid ((∀ t, t < lo → cm (X t) x a < 0) ∧ (∀ t, md ≤ t → t < n → 0 ≤ cm (X t) x a)) := ⟨(unhide I).1, fun t ht htn => Int.not_lt.1 fun hc => by have := (unhide HM) md t ht htn hc; rw [unhide HY] at this; exact hyx this⟩
        go_wp2
        go_roundg (md - lo)
        case measure => omega
        case rel => exact ⟨lo, md, rfl, rfl, by omega, by omega, Nat.le_refl _, S3, I2⟩
    · obtain rfl : hi = lo := by omega
      have RES : Hid (∀ (f : Bool) w', Below wr.heap.size wr w' → BsR x a X n w (.returned (.tuple #[.int .i64 (hi : Int), .bool f])) w') := fun f w' hb => ⟨hi, f, rfl, ⟨hin, (unhide I).1, (unhide I).2⟩, btr (btr (unhide HF) (unhide S1)) hb⟩
      by_cases hn' : hi < n
      · obtain ⟨g, rfl, hgl, c0, hBl, c1, c2⟩ := (unhide HZ) hi hn'
        have E : Below w.heap.size w wr := btr (unhide HF) (unhide S1)
        obtain ⟨b0, b1, b2⟩ := (unhide HQ) wr E (unhide S1)
        have HA := hide (fun w1 (hb : Below wr.heap.size wr w1) => addc2_ok (B hi) (X hi) x a o w1 ((hb.cell (p := ⟨B hi, 0, none⟩) (Nat.lt_of_lt_of_le hBl E.size)).trans ((E.cell (p := ⟨B hi, 0, none⟩) hBl).trans c1)) ((hb.cell (p := ⟨B hi, 1, none⟩) (Nat.lt_of_lt_of_le hBl E.size)).trans ((E.cell (p := ⟨B hi, 1, none⟩) hBl).trans c2)))
        have e0 := (E.cell (p := ⟨g, hi, none⟩) hgl).trans c0
        have hgr : g < wr.heap.size := Nat.lt_of_lt_of_le hgl E.size
        have hbr : w.heap.size < wr.heap.size := by have := (unhide S1).size; rw [hsz] at this; omega
        have HK := hide (fun w1 (hb : Below wr.heap.size wr w1) => (⟨(hb.cell (p := ⟨g, hi, none⟩) hgr).trans e0, (hb.cell (p := ⟨w.heap.size, 0, none⟩) hbr).trans b0, (hb.cell (p := ⟨w.heap.size, 1, none⟩) hbr).trans b1, (hb.cell (p := ⟨w.heap.size, 2, none⟩) hbr).trans b2⟩ : w1.cell? ⟨g, hi, none⟩ = some (ptr (B hi)) ∧ w1.cell? ⟨w.heap.size, 0, none⟩ = some (.int .i64 x) ∧ w1.cell? ⟨w.heap.size, 1, none⟩ = some (.int .i64 a) ∧ w1.cell? ⟨w.heap.size, 2, none⟩ = some (.int .i64 o)))
        clear c0 c1 c2 hBl
        have hm0 : (0 : Int) ≤ (hi : Int) := by omega
        have hm1 : (hi : Int) < n := by omega
        generalize cm (X hi) x a = y at *
        generalize B hi = bm at *
        unfold ptr at *
        go_wp2_with fail
        go_region_held3 (fun w' => w'.cell? ⟨g, hi, none⟩ = some (.pointer (some ⟨bm, 0, none⟩)) ∧ w'.cell? ⟨w.heap.size, 0, none⟩ = some (.int .i64 x) ∧ w'.cell? ⟨w.heap.size, 1, none⟩ = some (.int .i64 a) ∧ w'.cell? ⟨w.heap.size, 2, none⟩ = some (.int .i64 o)) ((first | (go_keep; done) | (exact (unhide HK) _ (by assumption)))) ((go_at_call 121; refine ((unhide HA) _ (drw wr)).mono ?_; rintro ev w3 ⟨rfl, b3⟩; have f3 : Below wr.heap.size wr w3 := bd b3))
        go_wp2
        go_ret2
        exact (unhide RES) _ _ f3
      · have hm1 : decide ((hi : Int) < n) = false := by simp; omega
        go_wp2_with fail
        go_quiet (fail)
        go_wp2
        go_ret2
        exact (unhide RES) _ _ (bdN (Below.refl _ _) _)
end Sb
end Go.Proofs.YtfefehkapffljaaGreatDoor
