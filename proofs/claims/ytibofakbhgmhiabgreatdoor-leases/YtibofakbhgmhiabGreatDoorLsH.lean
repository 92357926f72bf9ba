import Derived.Test.YtibofakbhgmhiabGreatDoorLsF
import Derived.Deep.RegionHeld3
namespace Go.Proofs.YtibofakbhgmhiabGreatDoor
open Go.RowKit

theorem find1 (a : At) (Ib : Nat) (x : Int) (w : World) (h : w.cell? ⟨Ib, 0, none⟩ = some (.int .i64 x)) :
    Calls Tryz.prog 170 #[.agg #[.int .i64 a.id, .int .i64 a.far, .int .i64 a.gr, .int .i64 a.hd], .pointer (some ⟨Ib, 0, none⟩)] w fun e w' => e = .returned (.bool ((a.id : Int) == x)) ∧ Below w.heap.size w w' := by
  have hb : Below w.heap.size w (w.alloc (.cells #[.int .i64 a.id, .int .i64 a.far, .int .i64 a.gr, .int .i64 a.hd] 283)) := (Below.refl _ _).alloc (Nat.le_refl _) _
  have h1 := (World.cell?_alloc_lt w (.cells #[.int .i64 a.id, .int .i64 a.far, .int .i64 a.gr, .int .i64 a.hd] 283) _ (hp_lt h)).trans h
  obtain ⟨i, f, g, hd⟩ := a
  simp only at hb h1 ⊢
  go_enter Tryz.func170, Tryz.ntmps170
  go_wp2
  go_ret
  exact ⟨rfl, hb⟩

set_option maxHeartbeats 1000000 in
set_option maxRecDepth 100000 in
theorem idxFind {w : World} {v : Value} {l : List At} (h : AtsAt w v l) (hl : l.length ≤ 1048576) (Ib : Nat) (x : Int) (hI : w.cell? ⟨Ib, 0, none⟩ = some (.int .i64 x)) :
    Calls Tryz.prog 169 #[v, .func (.func 170) #[] #[.pointer (some ⟨Ib, 0, none⟩)]] w fun e w' => ((∃ k, ∃ hk : k < l.length, e = .returned (.int .i64 k) ∧ ((l[k].id : Int) == x) = true ∧ ∀ j (hj : j < k), (((l[j]'(by omega)).id : Int) == x) = false) ∨ (e = .returned (.int .i64 (-1)) ∧ ∀ j (hj : j < l.length), ((l[j].id : Int) == x) = false)) ∧ Below w.heap.size w w' := by
  obtain ⟨a, c, rfl, hc⟩ := h
  go_enter Tryz.func169, Tryz.ntmps169
  go_wp2_with fail
  go_loopw [8] (fun jv wr => ∃ j : Nat, j ≤ l.length ∧ jv = .int .i64 j ∧ (∀ i (hi : i < j) (hl : i < l.length), ((l[i].id : Int) == x) = false) ∧ Below w.heap.size w wr) (fun jv _ => l.length - (intOf jv).toNat)
  case atStart => exact ⟨0, Nat.zero_le _, rfl, fun i hi => absurd hi (Nat.not_lt_zero _), Below.refl _ _⟩
  case round =>
    obtain ⟨j, hj, rfl, hno, hb⟩ := hrel
    by_cases hjl : j < l.length
    · obtain ⟨b, rfl, c0, c1, c2, c3⟩ := hc j hjl
      have d0 := (hb.cell (p := ⟨b, j * 4, none⟩) (hp_lt c0)).trans c0
      have d1 := (hb.cell (p := ⟨b, j * 4 + 1, none⟩) (hp_lt c1)).trans c1
      have d2 := (hb.cell (p := ⟨b, j * 4 + 2, none⟩) (hp_lt c2)).trans c2
      have d3 := (hb.cell (p := ⟨b, j * 4 + 3, none⟩) (hp_lt c3)).trans c3
      have hIr := (hb.cell (p := ⟨Ib, 0, none⟩) (hp_lt hI)).trans hI
      have HI : Hid (Calls Tryz.prog 170 #[.agg #[.int .i64 l[j].id, .int .i64 l[j].far, .int .i64 l[j].gr, .int .i64 l[j].hd], .pointer (some ⟨Ib, 0, none⟩)] wr fun e w' => e = .returned (.bool ((l[j].id : Int) == x)) ∧ Below w.heap.size w w') := by
        refine (find1 l[j] Ib x wr hIr).mono ?_
        rintro e w1 ⟨rfl, hb1⟩
        exact ⟨rfl, hb.trans (hb1.mono hb.size)⟩
      have HN : Hid (∀ i (hi : i < j) (hl : i < l.length), ((l[i].id : Int) == x) = false) := hno
      clear hno c0 c1 c2 c3 hc hIr hI
      obtain ⟨y, hy⟩ : ∃ y, y = l[j] := ⟨_, rfl⟩
      rw [← hy] at d0 d1 d2 d3 HI
      have HX : Hid (y = l[j]) := hy
      clear hy
      obtain ⟨yi, yf, yg, yh⟩ := y
      simp only at d0 d1 d2 d3 HI
      cases hid : ((yi : Int) == x) with
      | true =>
        rw [hid] at HI
        go_wp2_with (go_at_call 170; refine HI.out.mono ?_; rintro e w1 ⟨rfl, hb1⟩)
        go_ret
        exact ⟨.inl ⟨j, hjl, rfl, by rw [← HX.out]; exact hid, fun i hi => HN.out i hi (by omega)⟩, hb1⟩
      | false =>
        rw [hid] at HI
        go_wp2_with (go_at_call 170; refine HI.out.mono ?_; rintro e w1 ⟨rfl, hb1⟩)
        go_roundw
        case rel =>
          refine ⟨j + 1, by omega, by go_num, fun i hi hl => ?_, hb1⟩
          by_cases e : i < j
          · exact HN.out i e hl
          · obtain rfl : i = j := by omega
            rw [← HX.out]; exact hid
        case measure => simp [intOf]; omega
    · obtain rfl : j = l.length := by omega
      clear hc
      go_wp2
      go_ret
      exact ⟨.inr ⟨rfl, fun i hi => hno i hi hi⟩, hb⟩

/-- what find answers -/
def Found (bk : Bk) (id : Int) (g : Nat) (p5 p6 : Addr) (e : Ending) : Prop :=
  (¬ (1 ≤ id ∧ id ≤ bk.gs) ∧ e = .returned (.tuple #[.pointer none, .int .i64 0, .iface 513 (.pointer (some p5))])) ∨
  ((1 ≤ id ∧ id ≤ bk.gs) ∧ ∃ k, ∃ hk : k < bk.ts.length, ∃ i, ∃ hi : i < bk.ts[k].live.length, (bk.ts[k].live[i].id : Int) = id ∧ e = .returned (.tuple #[.pointer (some ⟨g, k * 3, none⟩), .int .i64 i, .nilIface])) ∨
  ((1 ≤ id ∧ id ≤ bk.gs) ∧ (∀ k (hk : k < bk.ts.length) i (hi : i < bk.ts[k].live.length), ¬ (bk.ts[k].live[i].id : Int) = id) ∧ e = .returned (.tuple #[.pointer none, .int .i64 0, .iface 513 (.pointer (some p6))]))

set_option maxHeartbeats 2000000 in
set_option maxRecDepth 100000 in
theorem find {B Tb : Nat} {st : Int} {cf : Cf} {w : World} {bk : Bk} {a : Option Addr} {c : Nat} {vs : List Value} (h : TbAt B Tb st cf w bk (.slice a bk.ts.length c) vs) (id : Int) (p5 p6 : Addr) (h5 : w.cell? ⟨5, 0, none⟩ = some (.iface 513 (.pointer (some p5)))) (h6 : w.cell? ⟨6, 0, none⟩ = some (.iface 513 (.pointer (some p6)))) (hl : bk.ts.length ≤ 1048576) (hal : ∀ t ∈ bk.ts, t.live.length ≤ 1048576) :
    Calls Tryz.prog 100 #[.pointer (some ⟨Tb, 2, none⟩), .int .i64 id] w fun e w' => (∃ g, (bk.ts ≠ [] → a = some ⟨g, 0, none⟩) ∧ Found bk id g p5 p6 e) ∧ Below w.heap.size w w' := by
  have hmf : ∀ (fn : Fn) (first cap : Array Value) (w : World), (Instr.makeFunc fn first cap).run Tryz.prog w = .ok (.func fn first cap) w := fun _ _ _ _ => rfl
  have hb0 : Below w.heap.size w (w.alloc (.cells #[.int .i64 id] 3)) := (Below.refl _ _).alloc (Nat.le_refl _) _
  have hT0 := h.below hb0
  obtain ⟨_, c11, c12, _⟩ := hT0.cells
  have ci : (w.alloc (.cells #[.int .i64 id] 3)).cell? ⟨w.heap.size, 0, none⟩ = some (.int .i64 id) := by rw [World.cell?_alloc_at _ _ _ _ (by simp)]; rfl
  have e5 := (World.cell?_alloc_lt w (.cells #[.int .i64 id] 3) _ (hp_lt h5)).trans h5
  have e6 := (World.cell?_alloc_lt w (.cells #[.int .i64 id] 3) _ (hp_lt h6)).trans h6
  have hW : Hid (∀ W, Calls Tryz.prog 87 #[.int .i64 id, .int .i64 1, .int .i64 bk.gs] W fun e w' => e = .returned (.bool (decide (1 ≤ id ∧ id ≤ bk.gs))) ∧ w' = W) := fun W => within id 1 bk.gs W
  obtain ⟨g, hg⟩ : ∃ g, bk.ts ≠ [] → a = some ⟨g, 0, none⟩ := by
    by_cases hne : bk.ts = []
    · exact ⟨0, fun h => absurd hne h⟩
    · obtain ⟨g, c', e⟩ := h.ts.at0 0 (List.length_pos_iff.2 hne)
      simp only [Value.slice.injEq] at e
      exact ⟨g, fun _ => e.1⟩
  have HG : Hid (bk.ts ≠ [] → a = some ⟨g, 0, none⟩) := hg
  clear hg
  by_cases hin : 1 ≤ id ∧ id ≤ bk.gs
  · have hd : decide (1 ≤ id ∧ id ≤ bk.gs) = true := by simpa using hin
    rw [hd] at hW
    have HIN : Hid (1 ≤ id ∧ id ≤ bk.gs) := hin
    clear hin hd
    go_enter Tryz.func100, Tryz.ntmps100
    go_wp2_with fail
    go_region_held3 (fun w' => w'.cell? ⟨w.heap.size, 0, none⟩ = some (.int .i64 id) ∧ w'.cell? ⟨Tb, 12, none⟩ = some (.int .i64 bk.gs)) (first | exact ⟨ci, c12⟩ | go_keep) ((go_at_call 87; refine (hW.out _).mono ?_; rintro e w' ⟨rfl, rfl⟩))
    go_wp2_with fail
    go_loopw [23] (fun jv wr => ∃ j : Nat, j ≤ bk.ts.length ∧ jv = .int .i64 j ∧ (∀ k (hk : k < bk.ts.length) i (hi : i < bk.ts[k].live.length), k < j → ¬ (bk.ts[k].live[i].id : Int) = id) ∧ Below (w.alloc (.cells #[.int .i64 id] 3)).heap.size (w.alloc (.cells #[.int .i64 id] 3)) wr) (fun jv _ => bk.ts.length - (intOf jv).toNat)
    case atStart => exact ⟨0, Nat.zero_le _, rfl, fun k _ i _ hk => absurd hk (Nat.not_lt_zero _), (Below.refl _ _).drew⟩
    case round =>
      obtain ⟨j, hj, rfl, hno, hb⟩ := hrel
      have hsz := hb.size
      have HN : Hid (∀ k (hk : k < bk.ts.length) i (hi : i < bk.ts[k].live.length), k < j → ¬ (bk.ts[k].live[i].id : Int) = id) := hno
      have hbw : Below w.heap.size w wr := hb0.trans (hb.mono (by simp))
      have HBW : Hid (Below w.heap.size w wr) := hbw
      clear hno
      by_cases hjl : j < bk.ts.length
      · have hT1 := hT0.below hb
        obtain ⟨g', c', e⟩ := h.ts.at0 j hjl
        simp only [Value.slice.injEq] at e
        obtain ⟨rfl, _, rfl⟩ := e
        have hgg : g' = g := by
          have := HG.out (fun e => by rw [e] at hjl; exact Nat.not_lt_zero _ hjl)
          simpa using this
        subst hgg
        obtain ⟨d0, d1, d2⟩ := hT1.ts.cells j hjl
        have hjv : j < vs.length := by rw [h.ts.len]; exact hjl
        obtain ⟨la, lc, hlv⟩ := h.ts.lv j hjl hjv
        have hats := ats_of_own (hT1.ts.live j hjl hjv)
        rw [hlv] at d2 hats
        obtain ⟨_, x11, _, _⟩ := hT1.cells
        have xi := (hb.cell (p := ⟨w.heap.size, 0, none⟩) (by simp)).trans ci
        have hll := hal _ (List.getElem_mem hjl)
        have HI : Hid (Calls Tryz.prog 169 #[.slice la bk.ts[j].live.length lc, .func (.func 170) #[] #[.pointer (some ⟨w.heap.size, 0, none⟩)]] wr fun e w1 => ((∃ k : Nat, (∃ hk : k < bk.ts[j].live.length, (bk.ts[j].live[k].id : Int) = id) ∧ e = .returned (.int .i64 k)) ∨ (e = .returned (.int .i64 (-1)) ∧ ∀ i (hi : i < bk.ts[j].live.length), ¬ (bk.ts[j].live[i].id : Int) = id)) ∧ Below (w.alloc (.cells #[.int .i64 id] 3)).heap.size (w.alloc (.cells #[.int .i64 id] 3)) w1) := by
          refine (idxFind hats hll w.heap.size id xi).mono ?_
          rintro e w1 ⟨hr, hb1⟩
          refine ⟨?_, hb.trans (hb1.mono hsz)⟩
          rcases hr with ⟨k, hk, rfl, h1, _⟩ | ⟨rfl, h1⟩
          · exact .inl ⟨k, ⟨hk, by simpa using h1⟩, rfl⟩
          · exact .inr ⟨rfl, fun i hi => by simpa using h1 i hi⟩
        clear hT0 hT1 h hats hlv d0 d1 hal hll hW
        go_wp2_with (go_at_call 169; refine HI.out.mono ?_; rintro e w1 ⟨hr, hb1⟩; rcases hr with ⟨kk, hkk, rfl⟩ | ⟨rfl, hnn⟩)
        · go_ret3
          obtain ⟨hk1, hk2⟩ := hkk
          exact ⟨⟨g', fun _ => rfl, .inr (.inl ⟨HIN.out, j, hjl, kk, hk1, hk2, rfl⟩)⟩, hb0.trans (hb1.mono (by simp))⟩
        · go_roundw
          case rel =>
            refine ⟨j + 1, by omega, by go_num, fun k hk i hi hkj => ?_, hb1⟩
            by_cases e : k < j
            · exact HN.out k hk i hi e
            · obtain rfl : k = j := by omega
              exact hnn i hi
          case measure => simp [intOf]; omega
      · obtain rfl : j = bk.ts.length := by omega
        have x6 := (hb.cell (p := ⟨6, 0, none⟩) (hp_lt e6)).trans e6
        obtain ⟨_, x11, _, _⟩ := (hT0.below hb).cells
        clear hT0 h
        go_wp2_with fail
        go_quiet (fail)
        go_wp2
        go_ret3
        exact ⟨⟨g, HG.out, .inr (.inr ⟨HIN.out, fun k hk i hi => HN.out k hk i hi hk, rfl⟩)⟩, below_drewN HBW.out _⟩
  · have hd : decide (1 ≤ id ∧ id ≤ bk.gs) = false := by simpa using hin
    rw [hd] at hW
    have HIN : Hid (¬ (1 ≤ id ∧ id ≤ bk.gs)) := hin
    clear hin hd h hT0
    go_enter Tryz.func100, Tryz.ntmps100
    go_wp2_with fail
    go_region_held3 (fun w' => w'.cell? ⟨w.heap.size, 0, none⟩ = some (.int .i64 id) ∧ w'.cell? ⟨Tb, 12, none⟩ = some (.int .i64 bk.gs)) (first | exact ⟨ci, c12⟩ | go_keep) ((go_at_call 87; refine (hW.out _).mono ?_; rintro e w' ⟨rfl, rfl⟩))
    go_wp2_with fail
    go_quiet (fail)
    go_wp2
    go_ret3
    exact ⟨⟨g, HG.out, .inl ⟨HIN.out, rfl⟩⟩, below_drewN hb0.drew _⟩
end Go.Proofs.YtibofakbhgmhiabGreatDoor
