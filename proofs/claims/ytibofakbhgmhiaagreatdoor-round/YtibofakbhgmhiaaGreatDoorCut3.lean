import Derived.Test.YtibofakbhgmhiaaGreatDoorCut2
import Derived.Deep.RegionWith
import Derived.WalkSpells
import Derived.Deep.DeepCutAuto
namespace Go.Proofs.YtibofakbhgmhiaaGreatDoor
open Go.RowKit Rd

theorem bcell {W w1 : World} (hb : Below W.heap.size W w1) : (∀ b o, b < W.heap.size → w1.cell? ⟨b, o, none⟩ = W.cell? ⟨b, o, none⟩) ∧ (∀ b o, b < W.heap.size → w1.frozen? ⟨b, o, none⟩ = W.frozen? ⟨b, o, none⟩) :=
  ⟨fun b o h => hb.cell (p := ⟨b, o, none⟩) h, fun b o h => hb.frozen (p := ⟨b, o, none⟩) h⟩

theorem slice_mid (t : ByteArray) (k k' : IntKind) (i j : Nat) (x y : Int) (hx : x = i) (hy : y = j) (h1 : i ≤ j) (h2 : j ≤ t.size) (w : World) :
    (Instr.slice 9 (.string t) (some (.int k x)) (some (.int k' y)) none).run Tryz.prog w = .ok (.string (t.extract i j)) w := by
  subst hx hy
  rw [run_slice_string_if _ _ _ _ _ _ _ Tryz.underlying9, if_pos (by omega), if_pos (by omega)]
  simp
theorem slice_end (t : ByteArray) (k : IntKind) (i : Nat) (x : Int) (hx : x = i) (h1 : i ≤ t.size) (w : World) :
    (Instr.slice 9 (.string t) (some (.int k x)) none none).run Tryz.prog w = .ok (.string (t.extract i t.size)) w := by
  subst hx
  rw [run_slice_string_from_if _ _ _ _ _ Tryz.underlying9, if_pos (by omega)]
  simp

theorem clone (s : ByteArray) (w : World) (hs : s.size ≤ 281474976710656) : Calls Tryz.prog 249 #[.string s] w fun e w' => e = .returned (.string s) ∧ Below w.heap.size w w' := by
  go_enter Tryz.func249, Tryz.ntmps249
  go_wp2_with fail
  refine (Tryz.stringslite_Clone s _ hs).mono ?_
  rintro e w1 ⟨rfl, hb⟩
  go_wp2
  go_ret
  exact ⟨rfl, hb⟩

set_option maxHeartbeats 4000000 in
set_option maxRecDepth 100000 in
theorem cutOk (t : ByteArray) (w : World) (hT : Tab w) (hG : 12 < w.heap.size) (ht : 8 ≤ t.size) (htl : t.size ≤ 70368744177664) (hsh : 8 + rd4 t.data.toList 0 + rd4 t.data.toList 4 + 4 ≤ t.size)
    (heq : crcN (t.data.toList.take (8 + rd4 t.data.toList 0 + rd4 t.data.toList 4)) = rd4 t.data.toList (8 + rd4 t.data.toList 0 + rd4 t.data.toList 4)) :
    Calls Tryz.prog 195 #[.string t] w fun e w' => e = .returned (.tuple #[.agg #[.string (t.extract 8 (8 + rd4 t.data.toList 0)), .string (t.extract (8 + rd4 t.data.toList 0) (8 + rd4 t.data.toList 0 + rd4 t.data.toList 4))], .string (t.extract (8 + rd4 t.data.toList 0 + rd4 t.data.toList 4 + 4) t.size), .nilIface]) ∧ Below w.heap.size w w' := by
  have hK := rd4_lt t.data.toList 0
  have hV := rd4_lt t.data.toList 4
  have n0 : ∀ W, Calls Tryz.prog 247 #[.string t, .int .i64 0] W fun e w' => e = .returned (.int .u32 (rd4 t.data.toList 0)) ∧ ∃ n, w' = W.drewN n := fun W => numberAt t 0 W (by omega) (by omega)
  have n4 : ∀ W, Calls Tryz.prog 247 #[.string t, .int .i64 4] W fun e w' => e = .returned (.int .u32 (rd4 t.data.toList 4)) ∧ ∃ n, w' = W.drewN n := fun W => numberAt t 4 W (by omega) (by omega)
  generalize rd4 t.data.toList 0 = K at *
  generalize rd4 t.data.toList 4 = V at *
  have nS := fun W => numberAt t (8 + K + V) W (by omega) (by omega)
  generalize rd4 t.data.toList (8 + K + V) = Z at *
  have N0 : Hid (∀ W, Calls Tryz.prog 247 #[.string t, .int .i64 0] W fun e w' => e = .returned (.int .u32 K) ∧ ∃ n, w' = W.drewN n) := n0
  have N4 : Hid (∀ W, Calls Tryz.prog 247 #[.string t, .int .i64 4] W fun e w' => e = .returned (.int .u32 V) ∧ ∃ n, w' = W.drewN n) := n4
  have NS : Hid (∀ W, Calls Tryz.prog 247 #[.string t, .int .i64 ((8 + K + V : Nat) : Int)] W fun e w' => e = .returned (.int .u32 Z) ∧ ∃ n, w' = W.drewN n) := nS
  clear n0 n4 nS
  go_enter Tryz.func195, Tryz.ntmps195
  go_wp2_with fail
  refine (N0.out _).mono ?_
  rintro e w1 ⟨rfl, q1, hw1⟩
  subst hw1
  go_wp2_with fail
  refine (N4.out _).mono ?_
  rintro e w2 ⟨rfl, q2, hw2⟩
  subst hw2
  go_wp2_with fail
  refine (sumStr (t.extract 0 (8 + K + V)) _ (by simp [maxLen]; omega) (Tab.below hT (below_drewN ((Below.refl _ _).alloc (Nat.le_refl _) _) _) hG)).mono ?_
  rintro e w3 ⟨rfl, hw3⟩
  subst hw3
  rw [take_extract]
  generalize crcN (t.data.toList.take (8 + K + V)) = Y at *
  subst heq
  go_wp2_with fail
  rw [show (8 + (K : Int) + (V : Int)) = ((8 + K + V : Nat) : Int) by omega]
  refine (NS.out _).mono ?_
  rintro e w4 ⟨rfl, q4, hw4⟩
  subst hw4
  go_wp2_with fail
  have s1 := fun W => slice_mid t .i64 .u64 8 (8 + K) 8 (8 + (K : Int)) rfl (by omega) (by omega) (by omega) W
  have s2 := fun W => slice_mid t .u64 .u64 (8 + K) (8 + K + V) (8 + (K : Int)) (8 + (K : Int) + (V : Int)) (by omega) (by omega) (by omega) (by omega) W
  have s3 := fun W => slice_end t .u64 (8 + K + V + 4) (8 + (K : Int) + (V : Int) + 4) (by omega) (by omega) W
  have hz1 : (t.extract 8 (8 + K)).size ≤ 281474976710656 := by simp; omega
  have hz2 : (t.extract (8 + K) (8 + K + V)).size ≤ 281474976710656 := by simp; omega
  have hL : Below w.heap.size w ((w.alloc (.cells #[.string ⟨#[]⟩, .string ⟨#[]⟩] 32)).drewN (q1 + q2 + q4)) := below_drewN ((Below.refl _ _).alloc (Nat.le_refl _) _) _
  go_cut [8] (fun p wc => ∃ X, p = .pointer (some ⟨X, 0, none⟩) ∧ w.heap.size < X ∧ wc.cell? ⟨X, 0, none⟩ = some (.string (t.extract 8 (8 + K))) ∧ wc.cell? ⟨X, 1, none⟩ = some (.string (t.extract (8 + K) (8 + K + V))) ∧ wc.cell? ⟨w.heap.size, 0, none⟩ = some (.string ⟨#[]⟩) ∧ wc.cell? ⟨w.heap.size, 1, none⟩ = some (.string ⟨#[]⟩) ∧ wc.frozen? ⟨w.heap.size, 0, none⟩ = false ∧ wc.frozen? ⟨w.heap.size, 1, none⟩ = false ∧ Below w.heap.size w wc)
  case first =>
    go_region_with (go_at_call 249; refine (clone _ _ ?_).mono ?_; (first | exact hz1 | exact hz2); rintro e w' ⟨rfl, hb⟩; obtain ⟨hc, hf⟩ := bcell hb; have hsz := hb.size; (try simp at hsz); (try have hz : w.heap.size + 1 < w'.heap.size := by omega); (try have hy : w.heap.size < w'.heap.size := by omega); have hBB : Below w.heap.size w w' := Below.trans (by repeat (first | assumption | exact Below.refl _ _ | refine below_drewN ?_ _ | refine Below.alloc ?_ (by first | omega | (simp; done) | (simp; omega)) _)) (hb.mono (by first | omega | (simp; done) | (simp; omega))))
    all_goals (go_wp2_with fail)
    all_goals go_meet
    all_goals (refine ⟨_, rfl, ?_, ?_, ?_, ?_, ?_, ?_, ?_, ?_⟩)
    all_goals (try omega)
    all_goals (try (go_simp; done))
    all_goals (repeat (first | assumption | refine Below.setCell ?_ (by first | (simp; done) | omega | (simp; omega)) _ | refine Below.alloc ?_ (by first | omega | (simp; done) | (simp; omega)) _))
  case rest =>
    obtain ⟨X, rfl, hX, x0, x1, y0, y1, f0, f1, hbc⟩ := hcut
    clear hz1 hz2 s1 s2 hL N0 N4 NS hT
    go_wp2_with fail
    go_region
    go_wp2
    exact bodyPost_ret (v := .tuple #[.agg #[.string (t.extract 8 (8 + K)), .string (t.extract (8 + K) (8 + K + V))], .string (t.extract (8 + K + V + 4) t.size), .nilIface]) (by simp [results, Tryz.results195, go_sem, y0, y1]) rfl ⟨rfl, by repeat (first | exact hbc | refine Below.drew ?_ | refine below_drewN ?_ _ | refine Below.setCell ?_ (by simp) _)⟩
end Go.Proofs.YtibofakbhgmhiaaGreatDoor
