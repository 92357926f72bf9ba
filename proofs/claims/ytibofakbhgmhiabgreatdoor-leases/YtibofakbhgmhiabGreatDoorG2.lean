import Derived.Test.YtibofakbhgmhiabGreatDoorGA
import Derived.Deep.RegionHeldLaw

namespace Go.Proofs.YtibofakbhgmhiabGreatDoor
open Go.RowKit Go.MuLone

set_option maxHeartbeats 4000000 in
set_option maxRecDepth 100000 in
theorem wReqC1 {Wb : Nat} {w : World} {cf : Cf} {M R Tb : Nat} {bk : Bk} {l : List Gr} {dn : Nat → Nat → Bool} {lv tv : Value} {vs : List Value} {N : Nat} (L : LS Wb w cf M R Tb bk l dn lv tv vs N) (a : Nat → Addr) (S : SL Wb w a) (hN : N ≤ 1048576) (hf : bk.fl = false) (hp : bk.ph = 1) :
    Calls Tryz.prog 40 #[.pointer (some ⟨Wb, 0, none⟩)] w fun e w' => e = .returned (.bool true) ∧ LH Wb cf M R Tb (N + 1) w' ∧ Below Wb w w' ∧ Fc Wb w w' := by
  obtain ⟨hM, hR, b1, b2, b3, b4, b5, b6⟩ := L.bounds hN
  obtain ⟨la, lc, hlv⟩ := L.K.slice
  rw [L.rel.gs] at hlv
  obtain ⟨i0, hi, hz0, hz1, hz2⟩ := info_parts Tryz.infoKgr
  have c11 := L.t
  have hl1 : 0 < leftOf dn 1 M := by
    rcases L.rel.left1 hM.2 with ⟨h, h'⟩ | ⟨h, h'⟩
    · exact h'
    · omega
  have hl2 : 0 < leftOf dn 2 R := by rcases L.rel.left2 hR with ⟨_, h⟩ | ⟨h, _⟩; exact h; omega
  have hlen : bk.ts.length = M := by have := L.rel.len (by omega); rw [hp] at this; exact this
  obtain ⟨X, hX⟩ : ∃ X : Nat → Nat, ∀ i, l.countP (Gr.cntAt cf.lease bk.now 1 i) = X i := ⟨fun i => _, fun _ => rfl⟩
  obtain ⟨Y, hY⟩ : ∃ Y : Nat → Nat, ∀ i, l.countP (Gr.at 1 i) = Y i := ⟨fun i => _, fun _ => rfl⟩
  have HQ : Hid (Calls Tryz.prog 13 #[.pointer (some ⟨Tb, 0, none⟩)] w fun e w1 =>
      (e = .returned (.tuple #[.agg #[.int .i64 0, .int .i64 0, .int .i64 0, .bool false], .int .i64 8]) ∧ Calls Tryz.prog 78 #[.pointer (some ⟨Wb, 13, none⟩), .int .i64 1] (w1.alloc (.cells #[.int .i64 0, .int .i64 0, .int .i64 0, .bool false] 50)) fun e w2 => e = .returned (.int .i64 (leftOf dn 1 M)) ∧ Calls Tryz.prog 78 #[.pointer (some ⟨Wb, 13, none⟩), .int .i64 2] w2 fun e w3 => e = .returned (.int .i64 (leftOf dn 2 R)) ∧ ((w3.cell? ⟨w1.heap.size, 0, none⟩ = some (.int .i64 0) ∧ w3.cell? ⟨w1.heap.size, 1, none⟩ = some (.int .i64 0) ∧ w3.cell? ⟨w1.heap.size, 2, none⟩ = some (.int .i64 0) ∧ w3.cell? ⟨w1.heap.size, 3, none⟩ = some (.bool false)) ∧ Calls Tryz.prog 79 #[.pointer (some ⟨Wb, 13, none⟩)] w3 fun e w4 => e = .returned (.bool true) ∧ Hid (LH Wb cf M R Tb (N + 1) w4 ∧ Below Wb w w4 ∧ Fc Wb w w4))) ∨
      (∃ (k : Nat) (b : Bool), (k : Int) < 16 ∧ e = .returned (.tuple #[.agg #[.int .i64 ((bk.gs : Int) + 1), .int .i64 k, .int .i64 1, .bool b], .int .i64 0]) ∧ Calls Tryz.prog 78 #[.pointer (some ⟨Wb, 13, none⟩), .int .i64 1] (w1.alloc (.cells #[.int .i64 ((bk.gs : Int) + 1), .int .i64 k, .int .i64 1, .bool b] 50)) fun e w2 => e = .returned (.int .i64 (leftOf dn 1 M)) ∧ Calls Tryz.prog 78 #[.pointer (some ⟨Wb, 13, none⟩), .int .i64 2] w2 fun e w3 => e = .returned (.int .i64 (leftOf dn 2 R)) ∧ (Gd1 Wb w1.heap.size cf bk.gs k b bk.now la lc M R w3 ∧ w3.cell? ⟨Wb, 22 + 1 * 16 + k, none⟩ = some (.bool false) ∧ Hid (Below w1.heap.size w1 w3) ∧
        Hid (∀ (i : Nat), i < 16 → ∀ W, Below w1.heap.size w1 W → Gd1 Wb w1.heap.size cf bk.gs k b bk.now la lc M R W → Calls Tryz.prog 81 #[.pointer (some ⟨Wb, 13, none⟩), .int .i64 1, .int .i64 i] W fun e w4 => e = .returned (.tuple #[.int .i64 (X i), .int .i64 (Y i)]) ∧ Gd1 Wb w1.heap.size cf bk.gs k b bk.now la lc M R w4 ∧ w4.cell? ⟨Wb, 22 + 1 * 16 + i, none⟩ = some (.bool (dn 1 i)) ∧ Hid (Below W.heap.size W w4)) ∧
        Hid ((Y k : Int) < cf.att ∧ ((b = false ∧ X k = 0) ∨ (b = true ∧ 0 < X k ∧ (X k : Int) ≤ cf.bck ∧ ∀ i, i < M → dn 1 i = true ∨ 0 < X i))) ∧
        Hid (∀ w5, Below w1.heap.size w1 w5 → ∀ o, ((w5.alloc o).drew).ownsRow Wb 112 5 lv bk.gs (gc l) ∧ (∀ w6, ((w5.alloc o).drew).grownBy w6 lv.ownBlock → (w6.cell? ⟨Wb, 21, none⟩ = some lv ∧ w6.frozen? ⟨Wb, 21, none⟩ = false) ∧ w6.cell? ⟨Wb, 70, none⟩ = w5.cell? ⟨Wb, 70, none⟩ ∧ ∀ (G : Nat) (cc : Array Value), w5.heap[G]? = some (.cells cc 50 (0, 0)) → w6.heap[G]? = some (.cells cc 50 (0, 0))) ∧
          (∀ v w6, w6.ownsRow Wb 112 5 v (bk.gs + 1) (gc l ++ [.int .i64 1, .int .i64 k, .bool b, .bool false, .int .i64 bk.now]) → ((w5.alloc o).drew).grownBy w6 lv.ownBlock → LH Wb cf M R Tb (N + 1) (w6.setCell ⟨Wb, 21, none⟩ v) ∧ Below Wb w (w6.setCell ⟨Wb, 21, none⟩ v) ∧ Fc Wb w (w6.setCell ⟨Wb, 21, none⟩ v)))))) := by
    refine (pReqC L.T L.WT a S (by omega) b2 b3 b4 hf (by omega)).mono ?_
    rintro e w1 (⟨rfl, hid, hS⟩ | ⟨k, b, hk, rfl, hcase, hS⟩)
    · obtain ⟨_, K1, _, _, _, _⟩ := L.stands hS
      refine .inl ⟨rfl, twoLeft K1 M R L.hM L.hR hM.2 hR.2 0 0 0 false _ (fun w3 hb3 _ hg => ⟨⟨hg 0, hg 1, hg 2, hg 3⟩, ?_⟩)⟩
      refine (busy (K1.below hb3) M R L.hM L.hR hM.2 hR.2 b5 b6 L.rel.hd 1 (.inl ⟨rfl, hl1⟩) (fun i hi => ?_)).mono ?_
      · have hi2 : i < bk.ts.length := by rw [hlen]; exact hi
        obtain ⟨_, _, d3⟩ := L.rel.done hM.2 hR.2 i hi2
        have hn := L.rel.nlive i hi2
        rw [hp] at d3 hn
        rw [d3, hn]
        have h4 := hid i hi2
        cases hd : bk.ts[i].done with
        | true => exact .inl rfl
        | false =>
          refine .inr ?_
          simp only [Tk.idle, hd] at h4
          simp at h4
          exact List.length_pos_iff.2 h4
      · rintro e w4 ⟨rfl, hb4⟩
        exact ⟨rfl, L.same hS (hb3.trans (hb4.mono hb3.size))⟩
    · obtain ⟨⟨cs, hcs, hcz⟩, K1, _, _, _, _⟩ := L.stands hS
      obtain ⟨_, d2, d3⟩ := L.rel.done hM.2 hR.2 k hk
      have hn := L.rel.nlive k hk
      have hg := L.rel.gr k hk
      rw [hp] at d3 hn hg
      have hnd : bk.ts[k].done = false := by
        rcases hcase with ⟨_, h⟩ | ⟨_, _, h⟩
        · simp only [Tk.idle, Bool.and_eq_true] at h; simpa using h.1
        · simp only [Tk.mayB, Bool.and_eq_true] at h; simpa using h.1
      rw [hp]
      refine .inr ⟨k, b, by omega, rfl, twoLeft K1 M R L.hM L.hR hM.2 hR.2 ((bk.gs : Int) + 1) k 1 b _ (fun w3 hb3 hgb _ => ?_)⟩
      have K3 := K1.below hb3
      have hW1 := lt_of_block hcs
      have e3 : w3.heap[Wb]? = some (.cells cs 43 (0, 0)) := by rw [hb3.block _ hW1]; exact hcs
      have gd3 : Gd1 Wb w1.heap.size cf bk.gs k b bk.now la lc M R w3 := ⟨hgb, by rw [← L.hM]; exact K3.c0, by rw [← L.hR]; exact K3.c1, K3.c3, K3.c4, by rw [← hlv]; exact K3.cl, K3.cn, by simp [World.frozen?, e3]⟩
      refine ⟨gd3, by rw [K3.cd 1 k (by omega) d2, d3, hnd], hb3, fun i hi16 W hbW gdW => ?_, ?_, fun w5 hb5 o => ?_⟩
      · have KW := K1.below hbW
        refine (live KW 1 i b5 b6 L.rel.hd).mono ?_
        rintro e w4 ⟨rfl, hb4⟩
        exact ⟨by rw [hX, hY], gdW.below hb4, (KW.below hb4).cd 1 i (by omega) hi16, hb4⟩
      · rw [← hY, ← hX, ← hg, hn]
        rcases hcase with ⟨rfl, h⟩ | ⟨rfl, hall, h⟩
        · refine ⟨L.rel.idle hf k hk h, .inl ⟨rfl, ?_⟩⟩
          simp only [Tk.idle, Bool.and_eq_true, beq_iff_eq] at h
          exact h.2
        · simp only [Tk.mayB, Bool.and_eq_true, decide_eq_true_eq] at h
          have hk0 := hall k hk
          simp only [Tk.idle, hnd] at hk0
          simp at hk0
          refine ⟨h.2.2, .inr ⟨rfl, List.length_pos_iff.2 hk0, h.2.1, fun i hi => ?_⟩⟩
          have hi2 : i < bk.ts.length := by rw [hlen]; exact hi
          obtain ⟨_, _, d3'⟩ := L.rel.done hM.2 hR.2 i hi2
          have hn' := L.rel.nlive i hi2
          rw [hp] at d3' hn'
          rw [d3', ← hX, hn']
          have h4 := hall i hi2
          cases hd : bk.ts[i].done with
          | true => exact .inl rfl
          | false =>
            refine .inr ?_
            simp only [Tk.idle, hd] at h4
            simp at h4
            exact List.length_pos_iff.2 h4
      · have hS' := hS
        exact L.take1 hp hf k hk hnd b hS' hb5 o
  have hbck : 0 ≤ cf.bck := L.ok.2.2.2.2.1.1
  have hMi : (M : Int) ≤ 16 := by omega
  have hRi : (R : Int) ≤ 16 := by omega
  have l1f : ((leftOf dn 1 M : Int) == 0) = false := by simp; omega
  have l2p : (0 : Int) < (leftOf dn 2 R : Int) := by omega
  have hle1 := leftOf_le dn 1 M
  have hle2 := leftOf_le dn 2 R
  clear L S b3 b4 hl1 hl2 hlen hp hf hX hY
  generalize leftOf dn 1 M = l1 at *
  generalize leftOf dn 2 R = l2 at *
  subst hlv
  go_enter Tryz.func40, Tryz.ntmps40
  go_wp2_with (first | (go_at_call 13; refine HQ.out.mono ?_; rintro e w1 (⟨rfl, HA⟩ | ⟨k, b, hk16, rfl, HA⟩)) | (go_at_call 78; first | (refine HB.mono ?_; (first | (have hq := hk16; clear hq; rintro e w3 ⟨rfl, gd, gdn, hb3, HLV, HCS, HTK⟩; have HGD : Hid _ := gd; obtain ⟨g0, g1, g2, g3⟩ := gd.cells; obtain ⟨_, c13, c14, c16, c17, c21, c70, fz⟩ := gd) | (rintro e w3 ⟨rfl, ⟨g0, g1, g2, g3⟩, HC⟩))) | (refine HA.mono ?_; rintro e w2 ⟨rfl, HB⟩)) | (go_at_call 79; refine HC.mono ?_; rintro e w4 ⟨rfl, hfin⟩))
  · go_ret
    exact ⟨rfl, hfin.out⟩
  · have HL3 : Hid (∀ (i : Nat), i < 16 → ∀ W, Below w3.heap.size w3 W → Calls Tryz.prog 81 #[.pointer (some ⟨Wb, 13, none⟩), .int .i64 1, .int .i64 i] W fun e w4 => e = .returned (.tuple #[.int .i64 (X i), .int .i64 (Y i)]) ∧ Gd1 Wb w1.heap.size cf bk.gs k b bk.now la lc M R w4 ∧ w4.cell? ⟨Wb, 22 + 1 * 16 + i, none⟩ = some (.bool (dn 1 i)) ∧ Hid (Below w3.heap.size w3 w4)) := by
      intro i hi16 W hbW
      refine (HLV.out i hi16 W (hb3.out.trans (hbW.mono hb3.out.size)) (HGD.out.below hbW)).mono ?_
      rintro e w4 ⟨rfl, h1, h2, h3⟩
      exact ⟨rfl, h1, h2, hbW.trans (h3.out.mono hbW.size)⟩
    clear HLV
    rcases HCS.out with ⟨hy, ⟨rfl, hx⟩ | ⟨rfl, hx1, hx2, hall⟩⟩
    · have hID : (((bk.gs : Int) + 1) != ((bk.gs : Int) + 1)) = false := by simp
      have hk1 : decide ((k : Int) < 0) = false := by simp
      have hk2 : decide (16 ≤ (k : Int)) = false := by simp; omega
      go_quiet (fail)
      go_wp2_with fail
      go_quiet (fail)
      go_wp2_with fail
      go_region_held3 (fun W => W.cell? ⟨w1.heap.size, 1, none⟩ = some (.int .i64 k) ∧ W.cell? ⟨w1.heap.size, 2, none⟩ = some (.int .i64 1)) (first | exact ⟨g1, g2⟩ | go_keep) ((go_at_call 81; refine (HL3.out k (by omega) _ (by first | exact (below_drewN (below_drewN (Below.refl _ _) _) _).drew | exact (below_drewN (Below.refl _ _) _).drew | exact below_drewN (below_drewN (below_drewN (Below.refl _ _) _) _) _ | exact below_drewN (below_drewN (Below.refl _ _) _) _ | exact below_drewN (Below.refl _ _) _)).mono ?_; rintro e w5 ⟨rfl, gd5, cd5, hb5⟩; rw [hx]; obtain ⟨q0, q1, q2, q3⟩ := gd5.cells; obtain ⟨kgb, k13, k14, k16, k17, k21, k70, kfz⟩ := gd5))
      have hlt := (hp_lt k13)
      clear HL3 HGD HCS
      generalize Y k = yk at *
      have hyy : decide (cf.att ≤ (yk : Int)) = false := by simp; omega
      have hbb : decide (cf.bck < 0) = false := by simp; omega
      go_wp2_with fail
      obtain ⟨HO, HK, HFIN⟩ := HTK.out w5 (hb3.out.trans (hb5.out.mono hb3.out.size)) (.cells #[.int .i64 1, .int .i64 k, .bool false, .bool false, .int .i64 bk.now] 112)
      have HO' : Hid (World.ownsRow _ _ _ _ _ _ _) := HO
      have HK' : Hid (∀ w6 : World, _ → _) := HK
      have HGW : Hid (Wb ≠ w1.heap.size) := by
        show Wb ≠ w1.heap.size
        rintro e
        rw [← e] at kgb
        have h13 := k13
        simp [World.cell?, kgb] at h13
      have HKG : Hid (w5.heap[w1.heap.size]? = _) := kgb
      clear kgb
      have HFIN' : Hid (∀ (v : Value) (w6 : World), _ → _ → _) := HFIN
      clear HO HK HFIN
      have HNW : Hid (∀ (j : Nat) (u : Value), [Value.int .i64 1, .int .i64 k, .bool false, .bool false, .int .i64 bk.now][j]? = some u → ((w5.alloc (.cells #[.int .i64 1, .int .i64 k, .bool false, .bool false, .int .i64 bk.now] 112)).drew).cell? ((⟨w5.heap.size, 0, none⟩ : Addr).add j) = some u) := by
        intro j u hj
        have e : (⟨w5.heap.size, 0, none⟩ : Addr).add j = ⟨w5.heap.size, j, none⟩ := by unfold Addr.add; split <;> simp_all
        rw [e]
        show (w5.alloc _).cell? _ = _
        rw [World.cell?_alloc_at _ _ _ _ (by simp)]
        rcases j with _ | _ | _ | _ | _ | j
        · simpa using hj
        · simpa using hj
        · simpa using hj
        · simpa using hj
        · simpa using hj
        · simp at hj
      have H1 : Hid (∀ u ∈ [Value.int .i64 1, .int .i64 k, .bool false, .bool false, .int .i64 bk.now], u.oneCell' = true) := by
        intro u hu; simp at hu; rcases hu with rfl | rfl | rfl | rfl | rfl <;> rfl
      have HZ : Hid (((w5.alloc (.cells #[.int .i64 1, .int .i64 k, .bool false, .bool false, .int .i64 bk.now] 112)).drew).heap.size = w5.heap.size + 1) := by show _ = _; simp [World.drew]
      have HSA : Hid (∀ o : Obj, (fun W : World => W.cell? ⟨w1.heap.size, 1, none⟩ = some (.int .i64 k) ∧ W.cell? ⟨w1.heap.size, 2, none⟩ = some (.int .i64 1) ∧ W.cell? ⟨w1.heap.size, 3, none⟩ = some (.bool false) ∧ W.cell? ⟨Wb, 70, none⟩ = some (.int .i64 bk.now)) ((w5.alloc o).drew)) := fun o => ⟨(World.cell?_alloc_lt w5 o _ (hp_lt q1)).trans q1, (World.cell?_alloc_lt w5 o _ (hp_lt q2)).trans q2, (World.cell?_alloc_lt w5 o _ (hp_lt q3)).trans q3, (World.cell?_alloc_lt w5 o _ (hp_lt k70)).trans k70⟩
      have hGW : Wb ≠ w1.heap.size := HGW.out
      have HSS : Hid (∀ (W : World) (v : Value), (fun W : World => W.cell? ⟨w1.heap.size, 1, none⟩ = some (.int .i64 k) ∧ W.cell? ⟨w1.heap.size, 2, none⟩ = some (.int .i64 1) ∧ W.cell? ⟨w1.heap.size, 3, none⟩ = some (.bool false) ∧ W.cell? ⟨Wb, 70, none⟩ = some (.int .i64 bk.now)) W → (fun W : World => W.cell? ⟨w1.heap.size, 1, none⟩ = some (.int .i64 k) ∧ W.cell? ⟨w1.heap.size, 2, none⟩ = some (.int .i64 1) ∧ W.cell? ⟨w1.heap.size, 3, none⟩ = some (.bool false) ∧ W.cell? ⟨Wb, 70, none⟩ = some (.int .i64 bk.now)) (W.setCell ⟨Wb, 21, none⟩ v)) := fun W v h => ⟨(World.cell?_setCell_far W _ _ v hGW).trans h.1, (World.cell?_setCell_far W _ _ v hGW).trans h.2.1, (World.cell?_setCell_far W _ _ v hGW).trans h.2.2.1, (World.cell?_setCell_other W _ _ v (by simp)).trans h.2.2.2⟩
      refine wp_region_held_drew (S := fun W => W.cell? ⟨w1.heap.size, 1, none⟩ = some (.int .i64 k) ∧ W.cell? ⟨w1.heap.size, 2, none⟩ = some (.int .i64 1) ∧ W.cell? ⟨w1.heap.size, 3, none⟩ = some (.bool false) ∧ W.cell? ⟨Wb, 70, none⟩ = some (.int .i64 bk.now)) (by kernel_rfl) ⟨q1, q2, q3, k70⟩ (fun hHeld => ?_)
      refine wpAnyH_take (i := 0) (v := (.pointer (some ⟨Wb, 0, none⟩))) rfl (by kernel_rfl) (by kernel_rfl) (by kernel_rfl) (fun _ _ _ h => h) (Or.inl ⟨by rfl, ?_⟩) (by assumption) ?_
      · (intro wz hSz; (try dsimp only at hSz); go_simp)
      try simp only [Act.put]
      refine wpAnyH_take (i := 1) (v := (.pointer (some ⟨Wb, 0, none⟩))) rfl (by kernel_rfl) (by kernel_rfl) (by kernel_rfl) (fun _ _ _ h => h) (Or.inl ⟨by rfl, ?_⟩) (by assumption) ?_
      · (intro wz hSz; (try dsimp only at hSz); go_simp)
      try simp only [Act.put]
      refine wpAnyH_take (i := 2) (v := (.pointer (some ⟨Wb, 0, none⟩))) rfl (by kernel_rfl) (by kernel_rfl) (by kernel_rfl) (fun _ _ _ h => h) (Or.inl ⟨by rfl, ?_⟩) (by assumption) ?_
      · (intro wz hSz; (try dsimp only at hSz); go_simp)
      try simp only [Act.put]
      refine wpAnyH_take (i := 3) (v := (.pointer (some ⟨Wb, 13, none⟩))) rfl (by kernel_rfl) (by kernel_rfl) (by kernel_rfl) (fun _ _ _ h => h) (Or.inl ⟨by rfl, ?_⟩) (by assumption) ?_
      · (intro wz hSz; (try dsimp only at hSz); go_simp)
      try simp only [Act.put]
      refine wpAnyH_take (i := 4) (v := (.pointer (some ⟨Wb, 21, none⟩))) rfl (by kernel_rfl) (by kernel_rfl) (by kernel_rfl) (fun _ _ _ h => h) (Or.inl ⟨by rfl, ?_⟩) (by assumption) ?_
      · (intro wz hSz; (try dsimp only at hSz); go_simp)
      try simp only [Act.put]
      refine wpAnyH_take (i := 6) (v := (.pointer (some ⟨w1.heap.size, 2, none⟩))) rfl (by kernel_rfl) (by kernel_rfl) (by kernel_rfl) (fun _ _ _ h => h) (Or.inl ⟨by rfl, ?_⟩) (by assumption) ?_
      · (intro wz hSz; (try dsimp only at hSz); go_simp)
      try simp only [Act.put]
      refine wpAnyH_take (i := 7) (v := (.int .i64 1)) rfl (by kernel_rfl) (by kernel_rfl) (by kernel_rfl) (fun _ _ _ h => h) (Or.inl ⟨by rfl, ?_⟩) (by assumption) ?_
      · (intro wz hSz; (try dsimp only at hSz); go_simp)
      try simp only [Act.put]
      refine wpAnyH_take (i := 8) (v := (.pointer (some ⟨w1.heap.size, 1, none⟩))) rfl (by kernel_rfl) (by kernel_rfl) (by kernel_rfl) (fun _ _ _ h => h) (Or.inl ⟨by rfl, ?_⟩) (by assumption) ?_
      · (intro wz hSz; (try dsimp only at hSz); go_simp)
      try simp only [Act.put]
      refine wpAnyH_take (i := 9) (v := (.int .i64 k)) rfl (by kernel_rfl) (by kernel_rfl) (by kernel_rfl) (fun _ _ _ h => h) (Or.inl ⟨by rfl, ?_⟩) (by assumption) ?_
      · (intro wz hSz; (try dsimp only at hSz); go_simp)
      try simp only [Act.put]
      refine wpAnyH_take (i := 10) (v := (.pointer (some ⟨w1.heap.size, 3, none⟩))) rfl (by kernel_rfl) (by kernel_rfl) (by kernel_rfl) (fun _ _ _ h => h) (Or.inl ⟨by rfl, ?_⟩) (by assumption) ?_
      · (intro wz hSz; (try dsimp only at hSz); go_simp)
      try simp only [Act.put]
      refine wpAnyH_take (i := 11) (v := (.bool false)) rfl (by kernel_rfl) (by kernel_rfl) (by kernel_rfl) (fun _ _ _ h => h) (Or.inl ⟨by rfl, ?_⟩) (by assumption) ?_
      · (intro wz hSz; (try dsimp only at hSz); go_simp)
      try simp only [Act.put]
      refine wpAnyH_take (i := 12) (v := (.pointer (some ⟨Wb, 0, none⟩))) rfl (by kernel_rfl) (by kernel_rfl) (by kernel_rfl) (fun _ _ _ h => h) (Or.inl ⟨by rfl, ?_⟩) (by assumption) ?_
      · (intro wz hSz; (try dsimp only at hSz); go_simp)
      try simp only [Act.put]
      refine wpAnyH_take (i := 13) (v := (.pointer (some ⟨Wb, 0, none⟩))) rfl (by kernel_rfl) (by kernel_rfl) (by kernel_rfl) (fun _ _ _ h => h) (Or.inl ⟨by rfl, ?_⟩) (by assumption) ?_
      · (intro wz hSz; (try dsimp only at hSz); go_simp)
      try simp only [Act.put]
      refine wpAnyH_take (i := 14) (v := (.pointer (some ⟨Wb, 13, none⟩))) rfl (by kernel_rfl) (by kernel_rfl) (by kernel_rfl) (fun _ _ _ h => h) (Or.inl ⟨by rfl, ?_⟩) (by assumption) ?_
      · (intro wz hSz; (try dsimp only at hSz); go_simp)
      try simp only [Act.put]
      refine wpAnyH_take (i := 15) (v := (.pointer (some ⟨Wb, 70, none⟩))) rfl (by kernel_rfl) (by kernel_rfl) (by kernel_rfl) (fun _ _ _ h => h) (Or.inl ⟨by rfl, ?_⟩) (by assumption) ?_
      · (intro wz hSz; (try dsimp only at hSz); go_simp)
      try simp only [Act.put]
      refine wpAnyH_take (i := 16) (v := (.int .i64 bk.now)) rfl (by kernel_rfl) (by kernel_rfl) (by kernel_rfl) (fun _ _ _ h => h) (Or.inl ⟨by rfl, ?_⟩) (by assumption) ?_
      · (intro wz hSz; (try dsimp only at hSz); go_simp)
      try simp only [Act.put]
      refine wpAnyH_take (i := 17) (v := (.agg #[.int .i64 1, .int .i64 k, .bool false, .bool false, .int .i64 bk.now])) rfl (by kernel_rfl) (by kernel_rfl) (by kernel_rfl) (fun _ _ _ h => h) (Or.inl ⟨by rfl, ?_⟩) (by assumption) ?_
      · (intro wz hSz; (try dsimp only at hSz); go_simp)
      try simp only [Act.put]
      refine wpAnyH_ready (rs := [5, 18]) (by kernel_rfl) (by simp) ?_
      refine AllReadyH.cons rfl (fun K hK => ?_) (AllReadyH.cons rfl (fun K hK => ?_) AllReadyH.nil)
      · go_simp
        refine hK.out _ _ ⟨q1, q2, q3, k70⟩ (fun hHeld => ?_)
        clear hK K
        refine wpAnyH_ready (rs := [18]) (by kernel_rfl) (by simp) ?_
        refine AllReadyH.cons rfl (fun K hK => ?_) AllReadyH.nil
        go_simp
        refine hK.out _ _ (HSA.out _) (fun hHeld => ?_)
        clear hK K
        refine wpAnyH_ready (rs := [19]) (by kernel_rfl) (by simp) ?_
        refine AllReadyH.cons rfl (fun K hK => ?_) AllReadyH.nil
        refine step_append_lies _ rfl (.tmp 202) (.tmp 215) 37 rfl Wb 112 i0 (.agg #[.int .i64 0, .int .i64 0, .bool false, .bool false, .int .i64 0]) 5 32 Tryz.underlying37 hi hz0 hz1 hz2 rfl (by decide) (.slice la bk.gs lc) bk.gs (gc l) (by simp [Act.eval]) HO'.out ⟨w5.heap.size, 0, none⟩ 1 1 [.int .i64 1, .int .i64 k, .bool false, .bool false, .int .i64 bk.now] (by simp [Act.eval]) rfl HNW.out H1.out (by decide) (by unfold maxLen; omega) (by omega) (by rw [HZ.out]; omega) (w5.heap.size + 1) HZ.out ?_; intro g cap w6 hown2 hg2 hgg hlt2; obtain ⟨⟨d9, e9⟩, t70, tG⟩ := HK'.out w6 hg2; rw [k70] at t70; have tGb := tG _ _ HKG.out; have t1 : w6.cell? ⟨w1.heap.size, 1, none⟩ = some (.int .i64 k) := (by simp [World.cell?, tGb]); have t2 : w6.cell? ⟨w1.heap.size, 2, none⟩ = some (.int .i64 1) := (by simp [World.cell?, tGb]); have t3 : w6.cell? ⟨w1.heap.size, 3, none⟩ = some (.bool false) := (by simp [World.cell?, tGb]); clear tG tGb
        refine hK.out _ _ ⟨t1, t2, t3, t70⟩ (fun hHeld => ?_)
        clear hK K
        refine wpAnyH_take (i := 20) (v := (.pointer (some ⟨Wb, 0, none⟩))) rfl (by kernel_rfl) (by kernel_rfl) (by kernel_rfl) (fun _ _ _ h => h) (Or.inl ⟨by rfl, ?_⟩) (by assumption) ?_
        · (intro wz hSz; (try dsimp only at hSz); go_simp)
        try simp only [Act.put]
        refine wpAnyH_take (i := 21) (v := (.pointer (some ⟨Wb, 13, none⟩))) rfl (by kernel_rfl) (by kernel_rfl) (by kernel_rfl) (fun _ _ _ h => h) (Or.inl ⟨by rfl, ?_⟩) (by assumption) ?_
        · (intro wz hSz; (try dsimp only at hSz); go_simp)
        try simp only [Act.put]
        refine wpAnyH_take (i := 22) (v := (.pointer (some ⟨Wb, 21, none⟩))) rfl (by kernel_rfl) (by kernel_rfl) (by kernel_rfl) (fun _ _ _ h => h) (Or.inl ⟨by rfl, ?_⟩) (by assumption) ?_
        · (intro wz hSz; (try dsimp only at hSz); go_simp)
        try simp only [Act.put]
        refine wpAnyH_ready (rs := [23]) (by kernel_rfl) (by simp) ?_
        refine AllReadyH.cons rfl (fun K hK => ?_) AllReadyH.nil
        go_simp
        refine hK.out _ _ (HSS.out _ _ ⟨t1, t2, t3, t70⟩) (fun hHeld => ?_)
        clear hK K
        refine wpAnyH_done (by kernel_rfl) ?_ _
        go_wp2
        go_ret
        exact ⟨rfl, HFIN'.out _ _ hown2 hg2⟩
      · go_simp
        refine hK.out _ _ (HSA.out _) (fun hHeld => ?_)
        clear hK K
        refine wpAnyH_ready (rs := [5]) (by kernel_rfl) (by simp) ?_
        refine AllReadyH.cons rfl (fun K hK => ?_) AllReadyH.nil
        go_simp
        refine hK.out _ _ (HSA.out _) (fun hHeld => ?_)
        clear hK K
        refine wpAnyH_ready (rs := [19]) (by kernel_rfl) (by simp) ?_
        refine AllReadyH.cons rfl (fun K hK => ?_) AllReadyH.nil
        refine step_append_lies _ rfl (.tmp 202) (.tmp 215) 37 rfl Wb 112 i0 (.agg #[.int .i64 0, .int .i64 0, .bool false, .bool false, .int .i64 0]) 5 32 Tryz.underlying37 hi hz0 hz1 hz2 rfl (by decide) (.slice la bk.gs lc) bk.gs (gc l) (by simp [Act.eval]) HO'.out ⟨w5.heap.size, 0, none⟩ 1 1 [.int .i64 1, .int .i64 k, .bool false, .bool false, .int .i64 bk.now] (by simp [Act.eval]) rfl HNW.out H1.out (by decide) (by unfold maxLen; omega) (by omega) (by rw [HZ.out]; omega) (w5.heap.size + 1) HZ.out ?_; intro g cap w6 hown2 hg2 hgg hlt2; obtain ⟨⟨d9, e9⟩, t70, tG⟩ := HK'.out w6 hg2; rw [k70] at t70; have tGb := tG _ _ HKG.out; have t1 : w6.cell? ⟨w1.heap.size, 1, none⟩ = some (.int .i64 k) := (by simp [World.cell?, tGb]); have t2 : w6.cell? ⟨w1.heap.size, 2, none⟩ = some (.int .i64 1) := (by simp [World.cell?, tGb]); have t3 : w6.cell? ⟨w1.heap.size, 3, none⟩ = some (.bool false) := (by simp [World.cell?, tGb]); clear tG tGb
        refine hK.out _ _ ⟨t1, t2, t3, t70⟩ (fun hHeld => ?_)
        clear hK K
        refine wpAnyH_take (i := 20) (v := (.pointer (some ⟨Wb, 0, none⟩))) rfl (by kernel_rfl) (by kernel_rfl) (by kernel_rfl) (fun _ _ _ h => h) (Or.inl ⟨by rfl, ?_⟩) (by assumption) ?_
        · (intro wz hSz; (try dsimp only at hSz); go_simp)
        try simp only [Act.put]
        refine wpAnyH_take (i := 21) (v := (.pointer (some ⟨Wb, 13, none⟩))) rfl (by kernel_rfl) (by kernel_rfl) (by kernel_rfl) (fun _ _ _ h => h) (Or.inl ⟨by rfl, ?_⟩) (by assumption) ?_
        · (intro wz hSz; (try dsimp only at hSz); go_simp)
        try simp only [Act.put]
        refine wpAnyH_take (i := 22) (v := (.pointer (some ⟨Wb, 21, none⟩))) rfl (by kernel_rfl) (by kernel_rfl) (by kernel_rfl) (fun _ _ _ h => h) (Or.inl ⟨by rfl, ?_⟩) (by assumption) ?_
        · (intro wz hSz; (try dsimp only at hSz); go_simp)
        try simp only [Act.put]
        refine wpAnyH_ready (rs := [23]) (by kernel_rfl) (by simp) ?_
        refine AllReadyH.cons rfl (fun K hK => ?_) AllReadyH.nil
        go_simp
        refine hK.out _ _ (HSS.out _ _ ⟨t1, t2, t3, t70⟩) (fun hHeld => ?_)
        clear hK K
        refine wpAnyH_done (by kernel_rfl) ?_ _
        go_wp2
        go_ret
        exact ⟨rfl, HFIN'.out _ _ hown2 hg2⟩
    · have hID : (((bk.gs : Int) + 1) != ((bk.gs : Int) + 1)) = false := by simp
      have hk1 : decide ((k : Int) < 0) = false := by simp
      have hk2 : decide (16 ≤ (k : Int)) = false := by simp; omega
      have HALL : Hid (∀ i, i < M → dn 1 i = true ∨ 0 < X i) := hall
      clear hall
      go_quiet (fail)
      go_wp2_with fail
      go_quiet (fail)
      go_wp2_with fail
      go_region_held3 (fun W => W.cell? ⟨w1.heap.size, 1, none⟩ = some (.int .i64 k) ∧ W.cell? ⟨w1.heap.size, 2, none⟩ = some (.int .i64 1)) (first | exact ⟨g1, g2⟩ | go_keep) ((go_at_call 81; refine (HL3.out k (by omega) _ (by first | exact (below_drewN (below_drewN (Below.refl _ _) _) _).drew | exact (below_drewN (Below.refl _ _) _).drew | exact below_drewN (below_drewN (below_drewN (Below.refl _ _) _) _) _ | exact below_drewN (below_drewN (Below.refl _ _) _) _ | exact below_drewN (Below.refl _ _) _)).mono ?_; rintro e w5 ⟨rfl, gd5, cd5, hb5⟩; have HGD5 : Hid _ := gd5; obtain ⟨q0, q1, q2, q3⟩ := gd5.cells; obtain ⟨kgb, k13, k14, k16, k17, k21, k70, kfz⟩ := gd5))
      clear HGD HCS kgb
      generalize Y k = yk at *
      have hyy : decide (cf.att ≤ (yk : Int)) = false := by simp; omega
      generalize X k = xk at *
      have hbb : decide (cf.bck < (xk : Int)) = false := by simp; omega
      have hpp : decide ((0 : Int) < (xk : Int)) = true := by simp; omega
      go_wp2_with fail
      go_loopw [12] (fun iv wr => ∃ i : Nat, i ≤ M ∧ iv = .int .i64 i ∧ Below w3.heap.size w3 wr ∧ Gd1 Wb w1.heap.size cf bk.gs k true bk.now la lc M R wr) (fun iv _ => M - (intOf iv).toNat)
      case atStart => exact ⟨0, Nat.zero_le _, rfl, hb5.out, HGD5.out⟩
      case round =>
        obtain ⟨i, hi2, rfl, hbr, gdr⟩ := hrel
        by_cases hil : i < M
        · obtain ⟨u0, u1', u2', u3'⟩ := gdr.cells
          have HLr : Hid (∀ q, Calls Tryz.prog 81 #[.pointer (some ⟨Wb, 13, none⟩), .int .i64 1, .int .i64 i] ((wr.drewN q).drew) fun e w4 => e = .returned (.tuple #[.int .i64 (X i), .int .i64 (Y i)]) ∧ Gd1 Wb w1.heap.size cf bk.gs k true bk.now la lc M R w4 ∧ w4.cell? ⟨Wb, 22 + 1 * 16 + i, none⟩ = some (.bool (dn 1 i)) ∧ Hid (Below w3.heap.size w3 w4)) := fun q => HL3.out i (by omega) _ (below_drewN hbr q).drew
          have HL0 : Hid (Calls Tryz.prog 81 #[.pointer (some ⟨Wb, 13, none⟩), .int .i64 1, .int .i64 i] wr.drew fun e w4 => e = .returned (.tuple #[.int .i64 (X i), .int .i64 (Y i)]) ∧ Gd1 Wb w1.heap.size cf bk.gs k true bk.now la lc M R w4 ∧ w4.cell? ⟨Wb, 22 + 1 * 16 + i, none⟩ = some (.bool (dn 1 i)) ∧ Hid (Below w3.heap.size w3 w4)) := HL3.out i (by omega) _ hbr.drew
          have ha := HALL.out i hil
          have hi16 : (i : Int) < 16 := by omega
          clear gdr HL3 HALL HGD5 HTK HLr q0 q1 q2 q3 k13 k14 k16 k17 k21 k70 kfz g0 g1 g2 g3 c13 c14 c16 c17 c21 c70 fz cd5 gdn hbr
          generalize X i = xi at *
          generalize Y i = yi at *
          generalize dn 1 i = d at *
          cases d with
          | true =>
            clear ha
            go_wp2_with fail
            go_region_held3 (fun W => W.cell? ⟨w1.heap.size, 2, none⟩ = some (.int .i64 1)) (first | exact u2' | go_keep) ((go_at_call 81; refine HL0.out.mono ?_; rintro e w7 ⟨rfl, gd7, cd7, hb7⟩; have HGD7 : Hid _ := gd7; obtain ⟨j0, j1, j2, j3⟩ := gd7.cells; clear gd7))
            go_wp2_with fail
            go_quiet (fail)
            go_wp2
            go_roundw
            case rel => exact ⟨i + 1, by omega, by go_num, below_drewN hb7.out _, HGD7.out.below (below_drewN (Below.refl _ _) _)⟩
            case measure => simp [intOf]; omega
          | false =>
            have hx0 : ((xi : Int) == 0) = false := by
              rcases ha with h | h
              · cases h
              · simp; omega
            clear ha
            go_wp2_with fail
            go_region_held3 (fun W => W.cell? ⟨w1.heap.size, 2, none⟩ = some (.int .i64 1)) (first | exact u2' | go_keep) ((go_at_call 81; refine HL0.out.mono ?_; rintro e w7 ⟨rfl, gd7, cd7, hb7⟩; have HGD7 : Hid _ := gd7; obtain ⟨j0, j1, j2, j3⟩ := gd7.cells; clear gd7))
            go_wp2_with fail
            go_quiet (fail)
            go_wp2
            go_roundw
            case rel => exact ⟨i + 1, by omega, by go_num, below_drewN hb7.out _, HGD7.out.below (below_drewN (Below.refl _ _) _)⟩
            case measure => simp [intOf]; omega
        · have HBR : Hid (Below w3.heap.size w3 wr) := hbr
          clear HGD5 HL3 HALL q0 q1 q2 q3 k13 k14 k16 k17 k21 k70 kfz g0 g1 g2 g3 c13 c14 c16 c17 c21 c70 fz cd5 gdn hbr
          obtain ⟨q0, q1, q2, q3⟩ := gdr.cells
          obtain ⟨kgb, k13, k14, k16, k17, k21, k70, kfz⟩ := gdr
          have hlt := (hp_lt k13)
          go_wp2_with fail
          obtain ⟨HO, HK, HFIN⟩ := HTK.out wr (hb3.out.trans (HBR.out.mono hb3.out.size)) (.cells #[.int .i64 1, .int .i64 k, .bool true, .bool false, .int .i64 bk.now] 112)
          have HO' : Hid (World.ownsRow _ _ _ _ _ _ _) := HO
          have HK' : Hid (∀ w6 : World, _ → _) := HK
          have HGW : Hid (Wb ≠ w1.heap.size) := by
            show Wb ≠ w1.heap.size
            rintro e
            rw [← e] at kgb
            have h13 := k13
            simp [World.cell?, kgb] at h13
          have HKG : Hid (wr.heap[w1.heap.size]? = _) := kgb
          clear kgb
          have HFIN' : Hid (∀ (v : Value) (w6 : World), _ → _ → _) := HFIN
          clear HO HK HFIN
          have HNW : Hid (∀ (j : Nat) (u : Value), [Value.int .i64 1, .int .i64 k, .bool true, .bool false, .int .i64 bk.now][j]? = some u → ((wr.alloc (.cells #[.int .i64 1, .int .i64 k, .bool true, .bool false, .int .i64 bk.now] 112)).drew).cell? ((⟨wr.heap.size, 0, none⟩ : Addr).add j) = some u) := by
            intro j u hj
            have e : (⟨wr.heap.size, 0, none⟩ : Addr).add j = ⟨wr.heap.size, j, none⟩ := by unfold Addr.add; split <;> simp_all
            rw [e]
            show (wr.alloc _).cell? _ = _
            rw [World.cell?_alloc_at _ _ _ _ (by simp)]
            rcases j with _ | _ | _ | _ | _ | j
            · simpa using hj
            · simpa using hj
            · simpa using hj
            · simpa using hj
            · simpa using hj
            · simp at hj
          have H1 : Hid (∀ u ∈ [Value.int .i64 1, .int .i64 k, .bool true, .bool false, .int .i64 bk.now], u.oneCell' = true) := by
            intro u hu; simp at hu; rcases hu with rfl | rfl | rfl | rfl | rfl <;> rfl
          have HZ : Hid (((wr.alloc (.cells #[.int .i64 1, .int .i64 k, .bool true, .bool false, .int .i64 bk.now] 112)).drew).heap.size = wr.heap.size + 1) := by show _ = _; simp [World.drew]
          have HSA : Hid (∀ o : Obj, (fun W : World => W.cell? ⟨w1.heap.size, 1, none⟩ = some (.int .i64 k) ∧ W.cell? ⟨w1.heap.size, 2, none⟩ = some (.int .i64 1) ∧ W.cell? ⟨w1.heap.size, 3, none⟩ = some (.bool true) ∧ W.cell? ⟨Wb, 70, none⟩ = some (.int .i64 bk.now)) ((wr.alloc o).drew)) := fun o => ⟨(World.cell?_alloc_lt wr o _ (hp_lt q1)).trans q1, (World.cell?_alloc_lt wr o _ (hp_lt q2)).trans q2, (World.cell?_alloc_lt wr o _ (hp_lt q3)).trans q3, (World.cell?_alloc_lt wr o _ (hp_lt k70)).trans k70⟩
          have hGW : Wb ≠ w1.heap.size := HGW.out
          have HSS : Hid (∀ (W : World) (v : Value), (fun W : World => W.cell? ⟨w1.heap.size, 1, none⟩ = some (.int .i64 k) ∧ W.cell? ⟨w1.heap.size, 2, none⟩ = some (.int .i64 1) ∧ W.cell? ⟨w1.heap.size, 3, none⟩ = some (.bool true) ∧ W.cell? ⟨Wb, 70, none⟩ = some (.int .i64 bk.now)) W → (fun W : World => W.cell? ⟨w1.heap.size, 1, none⟩ = some (.int .i64 k) ∧ W.cell? ⟨w1.heap.size, 2, none⟩ = some (.int .i64 1) ∧ W.cell? ⟨w1.heap.size, 3, none⟩ = some (.bool true) ∧ W.cell? ⟨Wb, 70, none⟩ = some (.int .i64 bk.now)) (W.setCell ⟨Wb, 21, none⟩ v)) := fun W v h => ⟨(World.cell?_setCell_far W _ _ v hGW).trans h.1, (World.cell?_setCell_far W _ _ v hGW).trans h.2.1, (World.cell?_setCell_far W _ _ v hGW).trans h.2.2.1, (World.cell?_setCell_other W _ _ v (by simp)).trans h.2.2.2⟩
          refine wp_region_held_drew (S := fun W => W.cell? ⟨w1.heap.size, 1, none⟩ = some (.int .i64 k) ∧ W.cell? ⟨w1.heap.size, 2, none⟩ = some (.int .i64 1) ∧ W.cell? ⟨w1.heap.size, 3, none⟩ = some (.bool true) ∧ W.cell? ⟨Wb, 70, none⟩ = some (.int .i64 bk.now)) (by kernel_rfl) ⟨q1, q2, q3, k70⟩ (fun hHeld => ?_)
          refine wpAnyH_take (i := 0) (v := (.pointer (some ⟨Wb, 0, none⟩))) rfl (by kernel_rfl) (by kernel_rfl) (by kernel_rfl) (fun _ _ _ h => h) (Or.inl ⟨by rfl, ?_⟩) (by assumption) ?_
          · (intro wz hSz; (try dsimp only at hSz); go_simp)
          try simp only [Act.put]
          refine wpAnyH_take (i := 1) (v := (.pointer (some ⟨Wb, 0, none⟩))) rfl (by kernel_rfl) (by kernel_rfl) (by kernel_rfl) (fun _ _ _ h => h) (Or.inl ⟨by rfl, ?_⟩) (by assumption) ?_
          · (intro wz hSz; (try dsimp only at hSz); go_simp)
          try simp only [Act.put]
          refine wpAnyH_take (i := 2) (v := (.pointer (some ⟨Wb, 0, none⟩))) rfl (by kernel_rfl) (by kernel_rfl) (by kernel_rfl) (fun _ _ _ h => h) (Or.inl ⟨by rfl, ?_⟩) (by assumption) ?_
          · (intro wz hSz; (try dsimp only at hSz); go_simp)
          try simp only [Act.put]
          refine wpAnyH_take (i := 3) (v := (.pointer (some ⟨Wb, 13, none⟩))) rfl (by kernel_rfl) (by kernel_rfl) (by kernel_rfl) (fun _ _ _ h => h) (Or.inl ⟨by rfl, ?_⟩) (by assumption) ?_
          · (intro wz hSz; (try dsimp only at hSz); go_simp)
          try simp only [Act.put]
          refine wpAnyH_take (i := 4) (v := (.pointer (some ⟨Wb, 21, none⟩))) rfl (by kernel_rfl) (by kernel_rfl) (by kernel_rfl) (fun _ _ _ h => h) (Or.inl ⟨by rfl, ?_⟩) (by assumption) ?_
          · (intro wz hSz; (try dsimp only at hSz); go_simp)
          try simp only [Act.put]
          refine wpAnyH_take (i := 6) (v := (.pointer (some ⟨w1.heap.size, 2, none⟩))) rfl (by kernel_rfl) (by kernel_rfl) (by kernel_rfl) (fun _ _ _ h => h) (Or.inl ⟨by rfl, ?_⟩) (by assumption) ?_
          · (intro wz hSz; (try dsimp only at hSz); go_simp)
          try simp only [Act.put]
          refine wpAnyH_take (i := 7) (v := (.int .i64 1)) rfl (by kernel_rfl) (by kernel_rfl) (by kernel_rfl) (fun _ _ _ h => h) (Or.inl ⟨by rfl, ?_⟩) (by assumption) ?_
          · (intro wz hSz; (try dsimp only at hSz); go_simp)
          try simp only [Act.put]
          refine wpAnyH_take (i := 8) (v := (.pointer (some ⟨w1.heap.size, 1, none⟩))) rfl (by kernel_rfl) (by kernel_rfl) (by kernel_rfl) (fun _ _ _ h => h) (Or.inl ⟨by rfl, ?_⟩) (by assumption) ?_
          · (intro wz hSz; (try dsimp only at hSz); go_simp)
          try simp only [Act.put]
          refine wpAnyH_take (i := 9) (v := (.int .i64 k)) rfl (by kernel_rfl) (by kernel_rfl) (by kernel_rfl) (fun _ _ _ h => h) (Or.inl ⟨by rfl, ?_⟩) (by assumption) ?_
          · (intro wz hSz; (try dsimp only at hSz); go_simp)
          try simp only [Act.put]
          refine wpAnyH_take (i := 10) (v := (.pointer (some ⟨w1.heap.size, 3, none⟩))) rfl (by kernel_rfl) (by kernel_rfl) (by kernel_rfl) (fun _ _ _ h => h) (Or.inl ⟨by rfl, ?_⟩) (by assumption) ?_
          · (intro wz hSz; (try dsimp only at hSz); go_simp)
          try simp only [Act.put]
          refine wpAnyH_take (i := 11) (v := (.bool true)) rfl (by kernel_rfl) (by kernel_rfl) (by kernel_rfl) (fun _ _ _ h => h) (Or.inl ⟨by rfl, ?_⟩) (by assumption) ?_
          · (intro wz hSz; (try dsimp only at hSz); go_simp)
          try simp only [Act.put]
          refine wpAnyH_take (i := 12) (v := (.pointer (some ⟨Wb, 0, none⟩))) rfl (by kernel_rfl) (by kernel_rfl) (by kernel_rfl) (fun _ _ _ h => h) (Or.inl ⟨by rfl, ?_⟩) (by assumption) ?_
          · (intro wz hSz; (try dsimp only at hSz); go_simp)
          try simp only [Act.put]
          refine wpAnyH_take (i := 13) (v := (.pointer (some ⟨Wb, 0, none⟩))) rfl (by kernel_rfl) (by kernel_rfl) (by kernel_rfl) (fun _ _ _ h => h) (Or.inl ⟨by rfl, ?_⟩) (by assumption) ?_
          · (intro wz hSz; (try dsimp only at hSz); go_simp)
          try simp only [Act.put]
          refine wpAnyH_take (i := 14) (v := (.pointer (some ⟨Wb, 13, none⟩))) rfl (by kernel_rfl) (by kernel_rfl) (by kernel_rfl) (fun _ _ _ h => h) (Or.inl ⟨by rfl, ?_⟩) (by assumption) ?_
          · (intro wz hSz; (try dsimp only at hSz); go_simp)
          try simp only [Act.put]
          refine wpAnyH_take (i := 15) (v := (.pointer (some ⟨Wb, 70, none⟩))) rfl (by kernel_rfl) (by kernel_rfl) (by kernel_rfl) (fun _ _ _ h => h) (Or.inl ⟨by rfl, ?_⟩) (by assumption) ?_
          · (intro wz hSz; (try dsimp only at hSz); go_simp)
          try simp only [Act.put]
          refine wpAnyH_take (i := 16) (v := (.int .i64 bk.now)) rfl (by kernel_rfl) (by kernel_rfl) (by kernel_rfl) (fun _ _ _ h => h) (Or.inl ⟨by rfl, ?_⟩) (by assumption) ?_
          · (intro wz hSz; (try dsimp only at hSz); go_simp)
          try simp only [Act.put]
          refine wpAnyH_take (i := 17) (v := (.agg #[.int .i64 1, .int .i64 k, .bool true, .bool false, .int .i64 bk.now])) rfl (by kernel_rfl) (by kernel_rfl) (by kernel_rfl) (fun _ _ _ h => h) (Or.inl ⟨by rfl, ?_⟩) (by assumption) ?_
          · (intro wz hSz; (try dsimp only at hSz); go_simp)
          try simp only [Act.put]
          refine wpAnyH_ready (rs := [5, 18]) (by kernel_rfl) (by simp) ?_
          refine AllReadyH.cons rfl (fun K hK => ?_) (AllReadyH.cons rfl (fun K hK => ?_) AllReadyH.nil)
          · go_simp
            refine hK.out _ _ ⟨q1, q2, q3, k70⟩ (fun hHeld => ?_)
            clear hK K
            refine wpAnyH_ready (rs := [18]) (by kernel_rfl) (by simp) ?_
            refine AllReadyH.cons rfl (fun K hK => ?_) AllReadyH.nil
            go_simp
            refine hK.out _ _ (HSA.out _) (fun hHeld => ?_)
            clear hK K
            refine wpAnyH_ready (rs := [19]) (by kernel_rfl) (by simp) ?_
            refine AllReadyH.cons rfl (fun K hK => ?_) AllReadyH.nil
            refine step_append_lies _ rfl (.tmp 202) (.tmp 215) 37 rfl Wb 112 i0 (.agg #[.int .i64 0, .int .i64 0, .bool false, .bool false, .int .i64 0]) 5 32 Tryz.underlying37 hi hz0 hz1 hz2 rfl (by decide) (.slice la bk.gs lc) bk.gs (gc l) (by simp [Act.eval]) HO'.out ⟨wr.heap.size, 0, none⟩ 1 1 [.int .i64 1, .int .i64 k, .bool true, .bool false, .int .i64 bk.now] (by simp [Act.eval]) rfl HNW.out H1.out (by decide) (by unfold maxLen; omega) (by omega) (by rw [HZ.out]; omega) (wr.heap.size + 1) HZ.out ?_; intro g cap w6 hown2 hg2 hgg hlt2; obtain ⟨⟨d9, e9⟩, t70, tG⟩ := HK'.out w6 hg2; rw [k70] at t70; have tGb := tG _ _ HKG.out; have t1 : w6.cell? ⟨w1.heap.size, 1, none⟩ = some (.int .i64 k) := (by simp [World.cell?, tGb]); have t2 : w6.cell? ⟨w1.heap.size, 2, none⟩ = some (.int .i64 1) := (by simp [World.cell?, tGb]); have t3 : w6.cell? ⟨w1.heap.size, 3, none⟩ = some (.bool true) := (by simp [World.cell?, tGb]); clear tG tGb
            refine hK.out _ _ ⟨t1, t2, t3, t70⟩ (fun hHeld => ?_)
            clear hK K
            refine wpAnyH_take (i := 20) (v := (.pointer (some ⟨Wb, 0, none⟩))) rfl (by kernel_rfl) (by kernel_rfl) (by kernel_rfl) (fun _ _ _ h => h) (Or.inl ⟨by rfl, ?_⟩) (by assumption) ?_
            · (intro wz hSz; (try dsimp only at hSz); go_simp)
            try simp only [Act.put]
            refine wpAnyH_take (i := 21) (v := (.pointer (some ⟨Wb, 13, none⟩))) rfl (by kernel_rfl) (by kernel_rfl) (by kernel_rfl) (fun _ _ _ h => h) (Or.inl ⟨by rfl, ?_⟩) (by assumption) ?_
            · (intro wz hSz; (try dsimp only at hSz); go_simp)
            try simp only [Act.put]
            refine wpAnyH_take (i := 22) (v := (.pointer (some ⟨Wb, 21, none⟩))) rfl (by kernel_rfl) (by kernel_rfl) (by kernel_rfl) (fun _ _ _ h => h) (Or.inl ⟨by rfl, ?_⟩) (by assumption) ?_
            · (intro wz hSz; (try dsimp only at hSz); go_simp)
            try simp only [Act.put]
            refine wpAnyH_ready (rs := [23]) (by kernel_rfl) (by simp) ?_
            refine AllReadyH.cons rfl (fun K hK => ?_) AllReadyH.nil
            go_simp
            refine hK.out _ _ (HSS.out _ _ ⟨t1, t2, t3, t70⟩) (fun hHeld => ?_)
            clear hK K
            refine wpAnyH_done (by kernel_rfl) ?_ _
            go_wp2
            go_ret
            exact ⟨rfl, HFIN'.out _ _ hown2 hg2⟩
          · go_simp
            refine hK.out _ _ (HSA.out _) (fun hHeld => ?_)
            clear hK K
            refine wpAnyH_ready (rs := [5]) (by kernel_rfl) (by simp) ?_
            refine AllReadyH.cons rfl (fun K hK => ?_) AllReadyH.nil
            go_simp
            refine hK.out _ _ (HSA.out _) (fun hHeld => ?_)
            clear hK K
            refine wpAnyH_ready (rs := [19]) (by kernel_rfl) (by simp) ?_
            refine AllReadyH.cons rfl (fun K hK => ?_) AllReadyH.nil
            refine step_append_lies _ rfl (.tmp 202) (.tmp 215) 37 rfl Wb 112 i0 (.agg #[.int .i64 0, .int .i64 0, .bool false, .bool false, .int .i64 0]) 5 32 Tryz.underlying37 hi hz0 hz1 hz2 rfl (by decide) (.slice la bk.gs lc) bk.gs (gc l) (by simp [Act.eval]) HO'.out ⟨wr.heap.size, 0, none⟩ 1 1 [.int .i64 1, .int .i64 k, .bool true, .bool false, .int .i64 bk.now] (by simp [Act.eval]) rfl HNW.out H1.out (by decide) (by unfold maxLen; omega) (by omega) (by rw [HZ.out]; omega) (wr.heap.size + 1) HZ.out ?_; intro g cap w6 hown2 hg2 hgg hlt2; obtain ⟨⟨d9, e9⟩, t70, tG⟩ := HK'.out w6 hg2; rw [k70] at t70; have tGb := tG _ _ HKG.out; have t1 : w6.cell? ⟨w1.heap.size, 1, none⟩ = some (.int .i64 k) := (by simp [World.cell?, tGb]); have t2 : w6.cell? ⟨w1.heap.size, 2, none⟩ = some (.int .i64 1) := (by simp [World.cell?, tGb]); have t3 : w6.cell? ⟨w1.heap.size, 3, none⟩ = some (.bool true) := (by simp [World.cell?, tGb]); clear tG tGb
            refine hK.out _ _ ⟨t1, t2, t3, t70⟩ (fun hHeld => ?_)
            clear hK K
            refine wpAnyH_take (i := 20) (v := (.pointer (some ⟨Wb, 0, none⟩))) rfl (by kernel_rfl) (by kernel_rfl) (by kernel_rfl) (fun _ _ _ h => h) (Or.inl ⟨by rfl, ?_⟩) (by assumption) ?_
            · (intro wz hSz; (try dsimp only at hSz); go_simp)
            try simp only [Act.put]
            refine wpAnyH_take (i := 21) (v := (.pointer (some ⟨Wb, 13, none⟩))) rfl (by kernel_rfl) (by kernel_rfl) (by kernel_rfl) (fun _ _ _ h => h) (Or.inl ⟨by rfl, ?_⟩) (by assumption) ?_
            · (intro wz hSz; (try dsimp only at hSz); go_simp)
            try simp only [Act.put]
            refine wpAnyH_take (i := 22) (v := (.pointer (some ⟨Wb, 21, none⟩))) rfl (by kernel_rfl) (by kernel_rfl) (by kernel_rfl) (fun _ _ _ h => h) (Or.inl ⟨by rfl, ?_⟩) (by assumption) ?_
            · (intro wz hSz; (try dsimp only at hSz); go_simp)
            try simp only [Act.put]
            refine wpAnyH_ready (rs := [23]) (by kernel_rfl) (by simp) ?_
            refine AllReadyH.cons rfl (fun K hK => ?_) AllReadyH.nil
            go_simp
            refine hK.out _ _ (HSS.out _ _ ⟨t1, t2, t3, t70⟩) (fun hHeld => ?_)
            clear hK K
            refine wpAnyH_done (by kernel_rfl) ?_ _
            go_wp2
            go_ret
            exact ⟨rfl, HFIN'.out _ _ hown2 hg2⟩
end Go.Proofs.YtibofakbhgmhiabGreatDoor

namespace Go.Proofs.YtibofakbhgmhiabGreatDoor
open Go.RowKit Go.MuLone

set_option maxHeartbeats 2000000 in
set_option maxRecDepth 100000 in
theorem callFail {Wb : Nat} {w : World} {cf : Cf} {M R Tb : Nat} {bk : Bk} {l : List Gr} {dn : Nat → Nat → Bool} {lv tv : Value} {vs : List Value} {N : Nat} (L : LS Wb w cf M R Tb bk l dn lv tv vs N) (a : Nat → Addr) (S : SL Wb w a) (hN : N ≤ 1048576) (A B C : Int) (s t : ByteArray) (hA1 : -9223372036854775808 ≤ A) (hA2 : A ≤ 9223372036854775807) (hA : pk6 A = 3) :
    Calls Tryz.prog 25 #[.pointer (some ⟨Wb, 0, none⟩), .agg #[.int .i64 9, .int .i64 A, .int .i64 B, .int .i64 C, .string s, .string t]] w fun e w' => e = .returned (.bool true) ∧ Fin Wb cf M R Tb N w w' := by
  obtain ⟨hM, hR, b1, b2, b3, b4, b5, b6⟩ := L.bounds hN
  obtain ⟨L0, lb0, lf0⟩ := L.op (.cells #[.int .i64 9, .int .i64 A, .int .i64 B, .int .i64 C, .string s, .string t] 45)
  have S0 := S.low lb0
  have c11 := (World.cell?_alloc_lt w (.cells #[.int .i64 9, .int .i64 A, .int .i64 B, .int .i64 C, .string s, .string t] 45) _ (hp_lt L.t)).trans L.t
  have c12 := (World.cell?_alloc_lt w (.cells #[.int .i64 9, .int .i64 A, .int .i64 B, .int .i64 C, .string s, .string t] 45) _ (hp_lt L.m)).trans L.m
  have cB : (w.alloc (.cells #[.int .i64 9, .int .i64 A, .int .i64 B, .int .i64 C, .string s, .string t] 45)).cell? ⟨w.heap.size, 2, none⟩ = some (.int .i64 B) := by rw [World.cell?_alloc_at _ _ _ _ (by simp)]; rfl
  have hpk : Hid (∀ W, Calls Tryz.prog 19 #[.int .i64 A, .int .i64 6] W fun e w' => e = .returned (.int .i64 3) ∧ w' = W) := fun W => by
    have := pick6 A W hA1 hA2
    rw [hA] at this
    exact this
  have HP : Hid (Calls Tryz.prog 43 #[.pointer (some ⟨Tb, 0, none⟩), .int .i64 B] ((w.alloc (.cells #[.int .i64 9, .int .i64 A, .int .i64 B, .int .i64 C, .string s, .string t] 45)).drew) fun e w1 => ∃ n, e = .returned (.int .i64 n) ∧ (w1.cell? ⟨w.heap.size, 2, none⟩ = some (.int .i64 B) ∧ w1.cell? ⟨Wb, 11, none⟩ = some (.pointer (some ⟨Tb, 0, none⟩))) ∧ Calls Tryz.prog 42 #[.pointer (some ⟨Wb, 0, none⟩), .int .i64 B, .int .i64 n] w1 fun e w2 => e = .returned (.bool true) ∧ ((n = n ∧ (n == 0) = false ∧ Hid (Fin Wb cf M R Tb N w w2)) ∨
      (n = 0 ∧ ∃ (j g c : Nat) (ov : Bool), B = (j : Int) + 1 ∧ (j : Int) < (l.length : Int) ∧ w2.cell? ⟨w.heap.size, 2, none⟩ = some (.int .i64 B) ∧ w2.cell? ⟨Wb, 21, none⟩ = some (.slice (some ⟨g, 0, none⟩) l.length c) ∧ w2.cell? ⟨g, j * 5 + 3, none⟩ = some (.bool ov) ∧ w2.frozen? ⟨g, j * 5 + 3, none⟩ = false ∧ Hid (∀ W, Below w2.heap.size w2 W → Fin Wb cf M R Tb N w (W.setCell ⟨g, j * 5 + 3, none⟩ (.bool true)))))) := by
    refine (pFail L0.T L0.WT B a S0 (by omega) b4).mono ?_
    rintro e w1 ⟨n, e0, bk', rfl, hn, hr, hS⟩
    obtain ⟨_, K1, _, ⟨t1, _⟩, _, _⟩ := L0.stands hS
    have ho := op_cells A B C s t hS.2.2
    refine ⟨n, rfl, ⟨by simp [World.cell?, ho], t1⟩, ?_⟩
    rcases hr with ⟨hno, rfl⟩ | ⟨hin, rfl, k, i, hh, hk, rfl⟩
    · obtain ⟨hf, hn0⟩ := no_fits L.rel S0.s hno hn
      refine (fits K1 B n b5 b6 L.rel.hd hf).mono ?_
      rintro e w2 ⟨rfl, hb2⟩
      obtain ⟨f1, f2, f3⟩ := L0.same hS hb2
      exact ⟨rfl, .inl ⟨rfl, by simpa using hn0, f1, lb0.trans f2, lf0.trans f3⟩⟩
    · have := errN_nil hn
      subst this
      refine (fits K1 B 0 b5 b6 L.rel.hd (has_fits L.rel hh)).mono ?_
      rintro e w2 ⟨rfl, hb2⟩
      obtain ⟨j, hj, e1, _, _, _⟩ := L.rel.found hh
      have K2 := K1.below hb2
      obtain ⟨g, c, hlv, d0, d1, d2, d3, d4⟩ := K2.at j hj
      subst hlv
      have ho2 : w2.heap[w.heap.size]? = some (.cells #[.int .i64 9, .int .i64 A, .int .i64 B, .int .i64 C, .string s, .string t] 45 (0, 0)) := by rw [hb2.block _ (lt_of_block ho)]; exact ho
      obtain ⟨cur, hg, _⟩ := K2.gblk
      obtain ⟨hk', hi', hid⟩ := hh
      have hid2 : bk.ts[k].live[i].id = j + 1 := by omega
      refine ⟨rfl, .inr ⟨rfl, j, g, c, _, e1, by omega, by simp [World.cell?, ho2], K2.cl, d3, by simp [World.frozen?, hg], fun W hbW => ?_⟩⟩
      obtain ⟨f1, f2, f3⟩ := L0.upd hS (hb2.trans (hbW.mono hb2.size)) (j * 5 + 3) (.bool true) (gc_set3 l j hj) (by simp) (L.rel.fail hk hi' hj hid2 _ (fun x => by rw [e1]; exact beq_cast x.id j)) rfl rfl
      exact ⟨f1, lb0.trans f2, lf0.trans f3⟩
  have hsz : (w.heap.size : Nat) ≠ Wb := by obtain ⟨cs, hcs, _⟩ := L.blk; have := lt_of_block hcs; omega
  clear L L0 S S0 b3 b4 lb0 lf0
  go_enter Tryz.func25, Tryz.ntmps25
  go_wp2_with (go_at_call 19; refine (hpk.out _).mono ?_; rintro e w' ⟨rfl, rfl⟩)
  go_region_held3 (fun W => W.cell? ⟨Wb, 11, none⟩ = some (.pointer (some ⟨Tb, 0, none⟩)) ∧ W.cell? ⟨w.heap.size, 2, none⟩ = some (.int .i64 B)) (first | exact ⟨c11, cB⟩ | go_keep) ((go_at_call 43; refine HP.out.mono ?_; rintro e w1 ⟨n, rfl, ⟨q2, q11⟩, HF⟩))
  go_wp2_with (go_at_call 42; refine HF.mono ?_; rintro e w2 ⟨rfl, hc⟩; rcases hc with ⟨_, hn0, hfin⟩ | ⟨rfl, j, g, c, ov, hB, hj, r2, r21, r3, rf, hfin⟩)
  · go_ret
    exact ⟨rfl, hfin.out⟩
  · subst hB
    have hj2 : (j : Int) + 1 - 1 = j := by omega
    go_region
    all_goals
      go_wp2
      go_ret
      exact ⟨rfl, hfin.out _ (Below.refl _ _).drew⟩
end Go.Proofs.YtibofakbhgmhiabGreatDoor

namespace Go.Proofs.YtibofakbhgmhiabGreatDoor
open Go.RowKit Go.MuLone

set_option maxHeartbeats 2000000 in
set_option maxRecDepth 100000 in
theorem callBeat {Wb : Nat} {w : World} {cf : Cf} {M R Tb : Nat} {bk : Bk} {l : List Gr} {dn : Nat → Nat → Bool} {lv tv : Value} {vs : List Value} {N : Nat} (L : LS Wb w cf M R Tb bk l dn lv tv vs N) (a : Nat → Addr) (S : SL Wb w a) (hN : N ≤ 1048576) (A B C : Int) (s t : ByteArray) (hA1 : -9223372036854775808 ≤ A) (hA2 : A ≤ 9223372036854775807) (hA : pk6 A = 1) (hC : 0 ≤ C ∧ C ≤ 100) :
    Calls Tryz.prog 25 #[.pointer (some ⟨Wb, 0, none⟩), .agg #[.int .i64 9, .int .i64 A, .int .i64 B, .int .i64 C, .string s, .string t]] w fun e w' => e = .returned (.bool true) ∧ Fin Wb cf M R Tb N w w' := by
  obtain ⟨hM, hR, b1, b2, b3, b4, b5, b6⟩ := L.bounds hN
  obtain ⟨L0, lb0, lf0⟩ := L.op (.cells #[.int .i64 9, .int .i64 A, .int .i64 B, .int .i64 C, .string s, .string t] 45)
  have S0 := S.low lb0
  have c11 := (World.cell?_alloc_lt w (.cells #[.int .i64 9, .int .i64 A, .int .i64 B, .int .i64 C, .string s, .string t] 45) _ (hp_lt L.t)).trans L.t
  have c12 := (World.cell?_alloc_lt w (.cells #[.int .i64 9, .int .i64 A, .int .i64 B, .int .i64 C, .string s, .string t] 45) _ (hp_lt L.m)).trans L.m
  have cC : (w.alloc (.cells #[.int .i64 9, .int .i64 A, .int .i64 B, .int .i64 C, .string s, .string t] 45)).cell? ⟨w.heap.size, 3, none⟩ = some (.int .i64 C) := by rw [World.cell?_alloc_at _ _ _ _ (by simp)]; rfl
  have cB : (w.alloc (.cells #[.int .i64 9, .int .i64 A, .int .i64 B, .int .i64 C, .string s, .string t] 45)).cell? ⟨w.heap.size, 2, none⟩ = some (.int .i64 B) := by rw [World.cell?_alloc_at _ _ _ _ (by simp)]; rfl
  have hpk : Hid (∀ W, Calls Tryz.prog 19 #[.int .i64 A, .int .i64 6] W fun e w' => e = .returned (.int .i64 1) ∧ w' = W) := fun W => by
    have := pick6 A W hA1 hA2
    rw [hA] at this
    exact this
  have HP : Hid (Calls Tryz.prog 41 #[.pointer (some ⟨Tb, 0, none⟩), .int .i64 B, .int .i64 C] ((w.alloc (.cells #[.int .i64 9, .int .i64 A, .int .i64 B, .int .i64 C, .string s, .string t] 45)).drew) fun e w1 => ∃ n, e = .returned (.int .i64 n) ∧ (w1.cell? ⟨w.heap.size, 2, none⟩ = some (.int .i64 B) ∧ w1.cell? ⟨w.heap.size, 3, none⟩ = some (.int .i64 C) ∧ w1.cell? ⟨Wb, 11, none⟩ = some (.pointer (some ⟨Tb, 0, none⟩))) ∧ Calls Tryz.prog 42 #[.pointer (some ⟨Wb, 0, none⟩), .int .i64 B, .int .i64 n] w1 fun e w2 => e = .returned (.bool true) ∧ ((n = n ∧ (n == 0) = false ∧ Hid (Fin Wb cf M R Tb N w w2)) ∨
      (n = 0 ∧ ∃ (j g c hd : Nat), B = (j : Int) + 1 ∧ (j : Int) < (l.length : Int) ∧ w2.cell? ⟨w.heap.size, 2, none⟩ = some (.int .i64 B) ∧ w2.cell? ⟨Wb, 21, none⟩ = some (.slice (some ⟨g, 0, none⟩) l.length c) ∧ w2.cell? ⟨g, j * 5 + 4, none⟩ = some (.int .i64 hd) ∧ w2.frozen? ⟨g, j * 5 + 4, none⟩ = false ∧ w2.cell? ⟨Wb, 70, none⟩ = some (.int .i64 bk.now) ∧ Hid (∀ W, Below w2.heap.size w2 W → Fin Wb cf M R Tb N w (W.setCell ⟨g, j * 5 + 4, none⟩ (.int .i64 bk.now)))))) := by
    refine (pHeartbeat L0.T L0.WT B C a S0 (by omega) b4).mono ?_
    rintro e w1 ⟨n, e0, bk', rfl, hn, hr, hS⟩
    obtain ⟨_, K1, _, ⟨t1, _⟩, _, _⟩ := L0.stands hS
    have ho := op_cells A B C s t hS.2.2
    refine ⟨n, rfl, ⟨by simp [World.cell?, ho], by simp [World.cell?, ho], t1⟩, ?_⟩
    rcases hr with ⟨hno | ⟨_, hfar, _⟩, rfl⟩ | ⟨hin, _, rfl, k, i, f, hk, hi', hid, rfl⟩
    · obtain ⟨hf, hn0⟩ := no_fits L.rel S0.s hno hn
      refine (fits K1 B n b5 b6 L.rel.hd hf).mono ?_
      rintro e w2 ⟨rfl, hb2⟩
      obtain ⟨f1, f2, f3⟩ := L0.same hS hb2
      exact ⟨rfl, .inl ⟨rfl, by simpa using hn0, f1, lb0.trans f2, lf0.trans f3⟩⟩
    · exact absurd hC hfar
    · have := errN_nil hn
      subst this
      have hh : bk.has B k i := ⟨hk, hi', hid⟩
      refine (fits K1 B 0 b5 b6 L.rel.hd (has_fits L.rel hh)).mono ?_
      rintro e w2 ⟨rfl, hb2⟩
      obtain ⟨j, hj, e1, _, _, _⟩ := L.rel.found hh
      have K2 := K1.below hb2
      obtain ⟨g, c, hlv, d0, d1, d2, d3, d4⟩ := K2.at j hj
      subst hlv
      have ho2 : w2.heap[w.heap.size]? = some (.cells #[.int .i64 9, .int .i64 A, .int .i64 B, .int .i64 C, .string s, .string t] 45 (0, 0)) := by rw [hb2.block _ (lt_of_block ho)]; exact ho
      obtain ⟨cur, hg, _⟩ := K2.gblk
      have hid2 : bk.ts[k].live[i].id = j + 1 := by omega
      refine ⟨rfl, .inr ⟨rfl, j, g, c, _, e1, by omega, by simp [World.cell?, ho2], K2.cl, d4, by simp [World.frozen?, hg], K2.cn, fun W hbW => ?_⟩⟩
      obtain ⟨f1, f2, f3⟩ := L0.upd hS (hb2.trans (hbW.mono hb2.size)) (j * 5 + 4) (.int .i64 bk.now) (gc_set4 l j hj bk.now) (by simp) (L.rel.beat L.ok.2.2.2.2.2.1.1 hk hi' hj hid2) rfl rfl
      exact ⟨f1, lb0.trans f2, lf0.trans f3⟩
  have hsz : (w.heap.size : Nat) ≠ Wb := by obtain ⟨cs, hcs, _⟩ := L.blk; have := lt_of_block hcs; omega
  clear L L0 S S0 b3 b4 lb0 lf0
  go_enter Tryz.func25, Tryz.ntmps25
  go_wp2_with (go_at_call 19; refine (hpk.out _).mono ?_; rintro e w' ⟨rfl, rfl⟩)
  go_region_held3 (fun W => W.cell? ⟨Wb, 11, none⟩ = some (.pointer (some ⟨Tb, 0, none⟩)) ∧ W.cell? ⟨w.heap.size, 2, none⟩ = some (.int .i64 B) ∧ W.cell? ⟨w.heap.size, 3, none⟩ = some (.int .i64 C)) (first | exact ⟨c11, cB, cC⟩ | go_keep) ((go_at_call 41; refine HP.out.mono ?_; rintro e w1 ⟨n, rfl, ⟨q2, q3, q11⟩, HF⟩))
  have hC1 : decide (C < 0) = false := by simp; omega
  have hC2 : decide (100 < C) = false := by simp; omega
  go_wp2_with (go_at_call 42; refine HF.mono ?_; rintro e w2 ⟨rfl, hc⟩; rcases hc with ⟨_, hn0, hfin⟩ | ⟨rfl, j, g, c, hd, hB, hj, r2, r21, r3, rf, r70, hfin⟩)
  · go_ret
    exact ⟨rfl, hfin.out⟩
  · subst hB
    have hj2 : (j : Int) + 1 - 1 = j := by omega
    go_region
    all_goals
      go_wp2
      go_ret
      exact ⟨rfl, hfin.out _ (Below.refl _ _).drew⟩
end Go.Proofs.YtibofakbhgmhiabGreatDoor

namespace Go.Proofs.YtibofakbhgmhiabGreatDoor
open Go.RowKit Go.MuLone

set_option maxHeartbeats 2000000 in
set_option maxRecDepth 100000 in
theorem callBeatNo {Wb : Nat} {w : World} {cf : Cf} {M R Tb : Nat} {bk : Bk} {l : List Gr} {dn : Nat → Nat → Bool} {lv tv : Value} {vs : List Value} {N : Nat} (L : LS Wb w cf M R Tb bk l dn lv tv vs N) (a : Nat → Addr) (S : SL Wb w a) (hN : N ≤ 1048576) (A B C : Int) (s t : ByteArray) (hA1 : -9223372036854775808 ≤ A) (hA2 : A ≤ 9223372036854775807) (hA : pk6 A = 1) (hC : ¬ (0 ≤ C ∧ C ≤ 100)) :
    Calls Tryz.prog 25 #[.pointer (some ⟨Wb, 0, none⟩), .agg #[.int .i64 9, .int .i64 A, .int .i64 B, .int .i64 C, .string s, .string t]] w fun e w' => e = .returned (.bool true) ∧ Fin Wb cf M R Tb N w w' := by
  obtain ⟨hM, hR, b1, b2, b3, b4, b5, b6⟩ := L.bounds hN
  obtain ⟨L0, lb0, lf0⟩ := L.op (.cells #[.int .i64 9, .int .i64 A, .int .i64 B, .int .i64 C, .string s, .string t] 45)
  have S0 := S.low lb0
  have c11 := (World.cell?_alloc_lt w (.cells #[.int .i64 9, .int .i64 A, .int .i64 B, .int .i64 C, .string s, .string t] 45) _ (hp_lt L.t)).trans L.t
  have c12 := (World.cell?_alloc_lt w (.cells #[.int .i64 9, .int .i64 A, .int .i64 B, .int .i64 C, .string s, .string t] 45) _ (hp_lt L.m)).trans L.m
  have cC : (w.alloc (.cells #[.int .i64 9, .int .i64 A, .int .i64 B, .int .i64 C, .string s, .string t] 45)).cell? ⟨w.heap.size, 3, none⟩ = some (.int .i64 C) := by rw [World.cell?_alloc_at _ _ _ _ (by simp)]; rfl
  have cB : (w.alloc (.cells #[.int .i64 9, .int .i64 A, .int .i64 B, .int .i64 C, .string s, .string t] 45)).cell? ⟨w.heap.size, 2, none⟩ = some (.int .i64 B) := by rw [World.cell?_alloc_at _ _ _ _ (by simp)]; rfl
  have hpk : Hid (∀ W, Calls Tryz.prog 19 #[.int .i64 A, .int .i64 6] W fun e w' => e = .returned (.int .i64 1) ∧ w' = W) := fun W => by
    have := pick6 A W hA1 hA2
    rw [hA] at this
    exact this
  have HP : Hid (Calls Tryz.prog 41 #[.pointer (some ⟨Tb, 0, none⟩), .int .i64 B, .int .i64 C] ((w.alloc (.cells #[.int .i64 9, .int .i64 A, .int .i64 B, .int .i64 C, .string s, .string t] 45)).drew) fun e w1 => ∃ n, e = .returned (.int .i64 n) ∧ (w1.cell? ⟨w.heap.size, 2, none⟩ = some (.int .i64 B) ∧ w1.cell? ⟨w.heap.size, 3, none⟩ = some (.int .i64 C) ∧ w1.cell? ⟨Wb, 11, none⟩ = some (.pointer (some ⟨Tb, 0, none⟩))) ∧ (n != 0) = true ∧ Hid (Fin Wb cf M R Tb N w w1)) := by
    refine (pHeartbeat L0.T L0.WT B C a S0 (by omega) b4).mono ?_
    rintro e w1 ⟨n, e0, bk', rfl, hn, hr, hS⟩
    have ho := op_cells A B C s t hS.2.2
    obtain ⟨_, _, _, ⟨t1, _⟩, _, _⟩ := L0.stands hS
    rcases hr with ⟨hno, rfl⟩ | ⟨_, hc, _⟩
    · obtain ⟨f1, f2, f3⟩ := L0.same hS (Below.refl _ _)
      refine ⟨n, rfl, ⟨by simp [World.cell?, ho], by simp [World.cell?, ho], t1⟩, ?_, f1, lb0.trans f2, lf0.trans f3⟩
      rcases hno with hno | ⟨_, _, rfl⟩
      · have := (no_fits L.rel S0.s hno hn).2
        simpa using this
      · have := errN_at S0.s (by omega) hn
        subst this
        decide
    · exact absurd hc hC
  have hC3 : C < 0 ∨ 100 < C := by omega
  clear L L0 S S0 b3 b4 lb0 lf0 hC
  rcases hC3 with hC3 | hC3
  · have hC1 : decide (C < 0) = true := by simp; omega
    go_enter Tryz.func25, Tryz.ntmps25
    go_wp2_with (go_at_call 19; refine (hpk.out _).mono ?_; rintro e w' ⟨rfl, rfl⟩)
    go_region_held3 (fun W => W.cell? ⟨Wb, 11, none⟩ = some (.pointer (some ⟨Tb, 0, none⟩)) ∧ W.cell? ⟨w.heap.size, 2, none⟩ = some (.int .i64 B) ∧ W.cell? ⟨w.heap.size, 3, none⟩ = some (.int .i64 C)) (first | exact ⟨c11, cB, cC⟩ | go_keep) ((go_at_call 41; refine HP.out.mono ?_; rintro e w1 ⟨n, rfl, ⟨q2, q3, q11⟩, hn0, hfin⟩))
    go_wp2
    go_ret
    exact ⟨rfl, hfin.out⟩
  · have hC1 : decide (C < 0) = false := by simp; omega
    have hC2 : decide (100 < C) = true := by simp; omega
    go_enter Tryz.func25, Tryz.ntmps25
    go_wp2_with (go_at_call 19; refine (hpk.out _).mono ?_; rintro e w' ⟨rfl, rfl⟩)
    go_region_held3 (fun W => W.cell? ⟨Wb, 11, none⟩ = some (.pointer (some ⟨Tb, 0, none⟩)) ∧ W.cell? ⟨w.heap.size, 2, none⟩ = some (.int .i64 B) ∧ W.cell? ⟨w.heap.size, 3, none⟩ = some (.int .i64 C)) (first | exact ⟨c11, cB, cC⟩ | go_keep) ((go_at_call 41; refine HP.out.mono ?_; rintro e w1 ⟨n, rfl, ⟨q2, q3, q11⟩, hn0, hfin⟩))
    go_wp2
    go_ret
    exact ⟨rfl, hfin.out⟩
end Go.Proofs.YtibofakbhgmhiabGreatDoor

namespace Go.Proofs.YtibofakbhgmhiabGreatDoor
open Go.RowKit Go.MuLone

theorem late_is {cf : Cf} {now : Nat} (hn : now ≤ 1048576) (x : At) (hx : x.hd ≤ now) : late cf.lease (now + 1) x = decide (cf.lease < ((now + 1 : Nat) : Int) - (x.hd : Int)) := by
  unfold late
  rw [show wrap64 (((now + 1 : Nat) : Int) - (x.hd : Int)) = ((now + 1 : Nat) : Int) - (x.hd : Int) from by unfold wrap64; omega]

set_option maxHeartbeats 2000000 in
set_option maxRecDepth 100000 in
theorem callTick {Wb : Nat} {w : World} {cf : Cf} {M R Tb : Nat} {bk : Bk} {l : List Gr} {dn : Nat → Nat → Bool} {lv tv : Value} {vs : List Value} {N : Nat} (L : LS Wb w cf M R Tb bk l dn lv tv vs N) (hN : N < 1048576) (A B C : Int) (s t : ByteArray) (hA1 : -9223372036854775808 ≤ A) (hA2 : A ≤ 9223372036854775807) (hA : pk6 A = 4) :
    Calls Tryz.prog 25 #[.pointer (some ⟨Wb, 0, none⟩), .agg #[.int .i64 9, .int .i64 A, .int .i64 B, .int .i64 C, .string s, .string t]] w fun e w' => e = .returned (.bool true) ∧ Fin Wb cf M R Tb N w w' := by
  obtain ⟨hM, hR, b1, b2, b3, b4, b5, b6⟩ := L.bounds (Nat.le_of_lt hN)
  have hnw : bk.now + 1 ≤ 1048576 := by have := L.now; omega
  have hbo : Below w.heap.size w (w.alloc (.cells #[.int .i64 9, .int .i64 A, .int .i64 B, .int .i64 C, .string s, .string t] 45)) := (Below.refl _ _).alloc (Nat.le_refl _) _
  have L0 := L.below hbo
  have lb0 : Below Wb w (w.alloc (.cells #[.int .i64 9, .int .i64 A, .int .i64 B, .int .i64 C, .string s, .string t] 45)) := hbo.mono (Nat.le_of_lt (hp_lt L.t))
  have c11 := L0.t
  have c12 := L0.m
  have hpk : Hid (∀ W, Calls Tryz.prog 19 #[.int .i64 A, .int .i64 6] W fun e w' => e = .returned (.int .i64 4) ∧ w' = W) := fun W => by
    have := pick6 A W hA1 hA2
    rw [hA] at this
    exact this
  have HT : Hid (Calls Tryz.prog 44 #[.pointer (some ⟨Tb, 0, none⟩)] (w.alloc (.cells #[.int .i64 9, .int .i64 A, .int .i64 B, .int .i64 C, .string s, .string t] 45)) fun e w1 => e = .returned (.tuple #[]) ∧ w1.cell? ⟨Wb, 70, none⟩ = some (.int .i64 bk.now) ∧ w1.frozen? ⟨Wb, 70, none⟩ = false ∧ Hid (CI Wb lv cf (mapTo (overLate cf.lease (bk.now + 1)) l 0) dn (bk.now + 1) Tb (ticked cf bk bk.ts.length) w (w1.setCell ⟨Wb, 70, none⟩ (.int .i64 ((bk.now : Int) + 1))))) := by
    refine (tTick L0.T L0.WT (by omega) b4 b6).mono ?_
    rintro e w1 ⟨rfl, hS⟩
    have C1 := CI.of L0 hS (Below.refl _ _) lb0 (Fc.of_below hbo)
    obtain ⟨cs, hcs, _⟩ := C1.blk
    rw [mapTo_zero]
    exact ⟨rfl, C1.K.cn, by simp [World.frozen?, hcs], C1.own 70 (by omega) (by omega) _ (fun p t hp ht => .inl ⟨by omega, rfl⟩) (.inr ⟨rfl, by simp⟩)⟩
  have HRel : Hid (Rel cf M R (ticked cf bk bk.ts.length) (l.map (overLate cf.lease (bk.now + 1))) dn) := L.rel.tick (fun x hx => late_is b6 x hx)
  have HL : Hid (cf.ok ∧ cf.maps = (M : Int) ∧ cf.reds = (R : Int) ∧ Wb ≤ Tb ∧ bk.gs ≤ N ∧ bk.now ≤ N) := ⟨L.ok, L.hM, L.hR, L.WT, L.gs, L.now⟩
  have HHD : Hid (∀ g ∈ l, g.hd ≤ bk.now) := L.rel.hd
  clear L L0 b3 b4 lb0 hbo
  go_enter Tryz.func25, Tryz.ntmps25
  go_wp2_with (first | (go_at_call 19; refine (hpk.out _).mono ?_; rintro e w' ⟨rfl, rfl⟩) | (go_at_call 44; refine HT.out.mono ?_; rintro e w1 ⟨rfl, c70, f70, HC⟩))
  go_loopw [16] (fun iv wr => ∃ i : Nat, i ≤ l.length ∧ iv = .int .i64 i ∧ CI Wb lv cf (mapTo (overLate cf.lease (bk.now + 1)) l i) dn (bk.now + 1) Tb (ticked cf bk bk.ts.length) w wr) (fun iv _ => l.length - (intOf iv).toNat)
  case atStart => exact ⟨0, Nat.zero_le _, rfl, HC.out⟩
  case round =>
    obtain ⟨i, hi, rfl, hC⟩ := hrel
    have hml := mapTo_length (overLate cf.lease (bk.now + 1)) l i
    by_cases hil : i < l.length
    · obtain ⟨g, c, hlv, d0, d1, d2, d3, d4⟩ := hC.K.at i (by omega)
      have hat := mapTo_at (overLate cf.lease (bk.now + 1)) l i hil (by omega)
      have cl := hC.K.cl
      rw [hlv, hml] at cl
      have hhd : (mapTo (overLate cf.lease (bk.now + 1)) l i)[i].hd ≤ bk.now + 1 := by rw [hat]; have := HHD.out _ (List.getElem_mem hil); omega
      have HK : Hid (Calls Tryz.prog 45 #[.pointer (some ⟨Wb, 13, none⟩), .int .i64 i] wr fun e w2 => e = .returned (.bool (l[i].cnt cf.lease (bk.now + 1))) ∧ w2.cell? ⟨Wb, 21, none⟩ = some (.slice (some ⟨g, 0, none⟩) l.length c) ∧ w2.cell? ⟨g, i * 5 + 3, none⟩ = some (.bool l[i].ov) ∧ w2.frozen? ⟨g, i * 5 + 3, none⟩ = false ∧ Hid (CI Wb lv cf (mapTo (overLate cf.lease (bk.now + 1)) l i) dn (bk.now + 1) Tb (ticked cf bk bk.ts.length) w w2) ∧ Hid (CI Wb lv cf ((mapTo (overLate cf.lease (bk.now + 1)) l i).set i l[i].gone) dn (bk.now + 1) Tb (ticked cf bk bk.ts.length) w (w2.setCell ⟨g, i * 5 + 3, none⟩ (.bool true)))) := by
        refine (counts hC.K i (by omega) (by omega) hhd).mono ?_
        rintro e w2 ⟨rfl, hb2⟩
        have C2 := hC.below hb2
        have C3 := C2
        rw [hlv] at C3
        obtain ⟨cur, hg, _⟩ := C3.K.gblk
        have hgl := lt_of_block hg
        refine ⟨by rw [hat], (hb2.cell (p := ⟨Wb, 21, none⟩) (hp_lt cl)).trans cl, ?_, by simp [World.frozen?, hg], C2, ?_⟩
        · rw [hat] at d3; exact (hb2.cell (p := ⟨g, i * 5 + 3, none⟩) (hp_lt d3)).trans d3
        · rw [hlv]
          have hs := gc_set3 (mapTo (overLate cf.lease (bk.now + 1)) l i) i (by omega)
          rw [hat] at hs
          exact C3.put (i * 5 + 3) (.bool true) hs (by simp)
      have HN : Hid (l[i].cnt cf.lease (bk.now + 1) = true → mapTo (overLate cf.lease (bk.now + 1)) l (i + 1) = mapTo (overLate cf.lease (bk.now + 1)) l i) := fun h => mapTo_skip _ _ _ hil (by simp [overLate, h])
      have HM : Hid (l[i].cnt cf.lease (bk.now + 1) = false → mapTo (overLate cf.lease (bk.now + 1)) l (i + 1) = (mapTo (overLate cf.lease (bk.now + 1)) l i).set i l[i].gone) := fun h => by rw [← mapTo_succ _ _ _ hil]; simp [overLate, h]
      clear hC d0 d1 d2 d3 d4 hat hml hhd HHD HRel HT
      generalize l[i].cnt cf.lease (bk.now + 1) = cn at *
      generalize l[i].ov = ov at *
      have hlti : (i : Int) < (l.length : Int) := by omega
      cases cn with
      | true =>
        go_wp2_with (go_at_call 45; refine HK.out.mono ?_; rintro e w2 ⟨rfl, e21, e3, f3, HA, HB⟩)
        go_roundw
        case rel => exact ⟨i + 1, by omega, by go_num, by rw [HN.out (by simp)]; exact HA.out⟩
        case measure => simp [intOf]; omega
      | false =>
        go_wp2_with (go_at_call 45; refine HK.out.mono ?_; rintro e w2 ⟨rfl, e21, e3, f3, HA, HB⟩)
        go_roundw
        case rel => exact ⟨i + 1, by omega, by go_num, by rw [HM.out (by simp)]; exact HB.out⟩
        case measure => simp [intOf]; omega
    · obtain rfl : i = l.length := by omega
      rw [mapTo_all] at hC
      obtain ⟨la, lc, hlv⟩ := hC.K.slice
      have cl := hC.K.cl
      rw [hlv] at cl
      simp only [List.length_map] at cl
      have HFin : Hid (Fin Wb cf M R Tb N w wr) := by
        obtain ⟨k1, k2, k3, k4, k5, k6⟩ := HL.out
        refine hC.fin HRel.out (by rw [ticked_now]) k1 k2 k3 k4 ?_ (by rw [ticked_now]; omega)
        rw [ticked_all]; show bk.gs ≤ N + 1; omega
      clear hC hlv HRel HHD HT
      go_wp2
      go_ret
      exact ⟨rfl, HFin.out⟩
end Go.Proofs.YtibofakbhgmhiabGreatDoor
