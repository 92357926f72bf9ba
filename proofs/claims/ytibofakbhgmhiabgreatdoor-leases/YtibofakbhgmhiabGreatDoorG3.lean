import Derived.Test.YtibofakbhgmhiabGreatDoorGA
import Derived.Deep.RegionHeldLaw

namespace Go.Proofs.YtibofakbhgmhiabGreatDoor
open Go.RowKit Go.MuLone

set_option maxHeartbeats 4000000 in
set_option maxRecDepth 100000 in
theorem wReqC2 {Wb : Nat} {w : World} {cf : Cf} {M R Tb : Nat} {bk : Bk} {l : List Gr} {dn : Nat → Nat → Bool} {lv tv : Value} {vs : List Value} {N : Nat} (L : LS Wb w cf M R Tb bk l dn lv tv vs N) (a : Nat → Addr) (S : SL Wb w a) (hN : N ≤ 1048576) (hf : bk.fl = false) (hp : bk.ph = 2) :
    Calls Tryz.prog 40 #[.pointer (some ⟨Wb, 0, none⟩)] w fun e w' => e = .returned (.bool true) ∧ LH Wb cf M R Tb (N + 1) w' ∧ Below Wb w w' ∧ Fc Wb w w' := by
  obtain ⟨hM, hR, b1, b2, b3, b4, b5, b6⟩ := L.bounds hN
  obtain ⟨la, lc, hlv⟩ := L.K.slice
  rw [L.rel.gs] at hlv
  obtain ⟨i0, hi, hz0, hz1, hz2⟩ := info_parts Tryz.infoKgr
  have c11 := L.t
  have hl1 : leftOf dn 1 M = 0 := by
    rcases L.rel.left1 hM.2 with ⟨h, h'⟩ | ⟨h, h'⟩
    · omega
    · exact h'
  have hl2 : 0 < leftOf dn 2 R := by rcases L.rel.left2 hR with ⟨_, h⟩ | ⟨h, _⟩; exact h; omega
  have hlen : bk.ts.length = R := by have := L.rel.len (by omega); rw [hp] at this; exact this
  obtain ⟨X, hX⟩ : ∃ X : Nat → Nat, ∀ i, l.countP (Gr.cntAt cf.lease bk.now 2 i) = X i := ⟨fun i => _, fun _ => rfl⟩
  obtain ⟨Y, hY⟩ : ∃ Y : Nat → Nat, ∀ i, l.countP (Gr.at 2 i) = Y i := ⟨fun i => _, fun _ => rfl⟩
  have HQ : Hid (Calls Tryz.prog 13 #[.pointer (some ⟨Tb, 0, none⟩)] w fun e w1 =>
      (e = .returned (.tuple #[.agg #[.int .i64 0, .int .i64 0, .int .i64 0, .bool false], .int .i64 8]) ∧ Calls Tryz.prog 78 #[.pointer (some ⟨Wb, 13, none⟩), .int .i64 1] (w1.alloc (.cells #[.int .i64 0, .int .i64 0, .int .i64 0, .bool false] 50)) fun e w2 => e = .returned (.int .i64 (leftOf dn 1 M)) ∧ Calls Tryz.prog 78 #[.pointer (some ⟨Wb, 13, none⟩), .int .i64 2] w2 fun e w3 => e = .returned (.int .i64 (leftOf dn 2 R)) ∧ ((w3.cell? ⟨w1.heap.size, 0, none⟩ = some (.int .i64 0) ∧ w3.cell? ⟨w1.heap.size, 1, none⟩ = some (.int .i64 0) ∧ w3.cell? ⟨w1.heap.size, 2, none⟩ = some (.int .i64 0) ∧ w3.cell? ⟨w1.heap.size, 3, none⟩ = some (.bool false)) ∧ Calls Tryz.prog 79 #[.pointer (some ⟨Wb, 13, none⟩)] w3 fun e w4 => e = .returned (.bool true) ∧ Hid (LH Wb cf M R Tb (N + 1) w4 ∧ Below Wb w w4 ∧ Fc Wb w w4))) ∨
      (∃ (k : Nat) (b : Bool), (k : Int) < 16 ∧ e = .returned (.tuple #[.agg #[.int .i64 ((bk.gs : Int) + 1), .int .i64 k, .int .i64 2, .bool b], .int .i64 0]) ∧ Calls Tryz.prog 78 #[.pointer (some ⟨Wb, 13, none⟩), .int .i64 1] (w1.alloc (.cells #[.int .i64 ((bk.gs : Int) + 1), .int .i64 k, .int .i64 2, .bool b] 50)) fun e w2 => e = .returned (.int .i64 (leftOf dn 1 M)) ∧ Calls Tryz.prog 78 #[.pointer (some ⟨Wb, 13, none⟩), .int .i64 2] w2 fun e w3 => e = .returned (.int .i64 (leftOf dn 2 R)) ∧ (Gd2 Wb w1.heap.size cf bk.gs k b bk.now la lc M R w3 ∧ w3.cell? ⟨Wb, 22 + 2 * 16 + k, none⟩ = some (.bool false) ∧ Hid (Below w1.heap.size w1 w3) ∧
        Hid (∀ (i : Nat), i < 16 → ∀ W, Below w1.heap.size w1 W → Gd2 Wb w1.heap.size cf bk.gs k b bk.now la lc M R W → Calls Tryz.prog 81 #[.pointer (some ⟨Wb, 13, none⟩), .int .i64 2, .int .i64 i] W fun e w4 => e = .returned (.tuple #[.int .i64 (X i), .int .i64 (Y i)]) ∧ Gd2 Wb w1.heap.size cf bk.gs k b bk.now la lc M R w4 ∧ w4.cell? ⟨Wb, 22 + 2 * 16 + i, none⟩ = some (.bool (dn 2 i)) ∧ Hid (Below W.heap.size W w4)) ∧
        Hid ((Y k : Int) < cf.att ∧ ((b = false ∧ X k = 0) ∨ (b = true ∧ 0 < X k ∧ (X k : Int) ≤ cf.bck ∧ ∀ i, i < R → dn 2 i = true ∨ 0 < X i))) ∧
        Hid (∀ w5, Below w1.heap.size w1 w5 → ∀ o, ((w5.alloc o).drew).ownsRow Wb 112 5 lv bk.gs (gc l) ∧ (∀ w6, ((w5.alloc o).drew).grownBy w6 lv.ownBlock → (w6.cell? ⟨Wb, 21, none⟩ = some lv ∧ w6.frozen? ⟨Wb, 21, none⟩ = false) ∧ w6.cell? ⟨Wb, 70, none⟩ = w5.cell? ⟨Wb, 70, none⟩ ∧ ∀ (G : Nat) (cc : Array Value), w5.heap[G]? = some (.cells cc 50 (0, 0)) → w6.heap[G]? = some (.cells cc 50 (0, 0))) ∧
          (∀ v w6, w6.ownsRow Wb 112 5 v (bk.gs + 1) (gc l ++ [.int .i64 2, .int .i64 k, .bool b, .bool false, .int .i64 bk.now]) → ((w5.alloc o).drew).grownBy w6 lv.ownBlock → LH Wb cf M R Tb (N + 1) (w6.setCell ⟨Wb, 21, none⟩ v) ∧ Below Wb w (w6.setCell ⟨Wb, 21, none⟩ v) ∧ Fc Wb w (w6.setCell ⟨Wb, 21, none⟩ v)))))) := by
    refine (pReqC L.T L.WT a S (by omega) b2 b3 b4 hf (by omega)).mono ?_
    rintro e w1 (⟨rfl, hid, hS⟩ | ⟨k, b, hk, rfl, hcase, hS⟩)
    · obtain ⟨_, K1, _, _, _, _⟩ := L.stands hS
      refine .inl ⟨rfl, twoLeft K1 M R L.hM L.hR hM.2 hR.2 0 0 0 false _ (fun w3 hb3 _ hg => ⟨⟨hg 0, hg 1, hg 2, hg 3⟩, ?_⟩)⟩
      refine (busy (K1.below hb3) M R L.hM L.hR hM.2 hR.2 b5 b6 L.rel.hd 2 (.inr ⟨rfl, hl1⟩) (fun i hi => ?_)).mono ?_
      · have hi2 : i < bk.ts.length := by rw [hlen]; exact hi
        obtain ⟨_, _, d3⟩ := L.rel.done hM.2 hR.2 i hi2
        have hn := L.rel.nlive i hi2
        rw [hp] at d3 hn
        rw [d3, hn]
        have h4 := hid i hi2
        cases hd : bk.ts[i].done with
        | true => exact .inl rfl
        | false =>
          refine .inr ?_
          simp only [Tk.idle, hd] at h4
          simp at h4
          exact List.length_pos_iff.2 h4
      · rintro e w4 ⟨rfl, hb4⟩
        exact ⟨rfl, L.same hS (hb3.trans (hb4.mono hb3.size))⟩
    · obtain ⟨⟨cs, hcs, hcz⟩, K1, _, _, _, _⟩ := L.stands hS
      obtain ⟨_, d2, d3⟩ := L.rel.done hM.2 hR.2 k hk
      have hn := L.rel.nlive k hk
      have hg := L.rel.gr k hk
      rw [hp] at d3 hn hg
      have hnd : bk.ts[k].done = false := by
        rcases hcase with ⟨_, h⟩ | ⟨_, _, h⟩
        · simp only [Tk.idle, Bool.and_eq_true] at h; simpa using h.1
        · simp only [Tk.mayB, Bool.and_eq_true] at h; simpa using h.1
      rw [hp]
      refine .inr ⟨k, b, by omega, rfl, twoLeft K1 M R L.hM L.hR hM.2 hR.2 ((bk.gs : Int) + 1) k 2 b _ (fun w3 hb3 hgb _ => ?_)⟩
      have K3 := K1.below hb3
      have hW1 := lt_of_block hcs
      have e3 : w3.heap[Wb]? = some (.cells cs 43 (0, 0)) := by rw [hb3.block _ hW1]; exact hcs
      have gd3 : Gd2 Wb w1.heap.size cf bk.gs k b bk.now la lc M R w3 := ⟨hgb, by rw [← L.hM]; exact K3.c0, by rw [← L.hR]; exact K3.c1, K3.c3, K3.c4, by rw [← hlv]; exact K3.cl, K3.cn, by simp [World.frozen?, e3]⟩
      refine ⟨gd3, by rw [K3.cd 2 k (by omega) d2, d3, hnd], hb3, fun i hi16 W hbW gdW => ?_, ?_, fun w5 hb5 o => ?_⟩
      · have KW := K1.below hbW
        refine (live KW 2 i b5 b6 L.rel.hd).mono ?_
        rintro e w4 ⟨rfl, hb4⟩
        exact ⟨by rw [hX, hY], gdW.below hb4, (KW.below hb4).cd 2 i (by omega) hi16, hb4⟩
      · rw [← hY, ← hX, ← hg, hn]
        rcases hcase with ⟨rfl, h⟩ | ⟨rfl, hall, h⟩
        · refine ⟨L.rel.idle hf k hk h, .inl ⟨rfl, ?_⟩⟩
          simp only [Tk.idle, Bool.and_eq_true, beq_iff_eq] at h
          exact h.2
        · simp only [Tk.mayB, Bool.and_eq_true, decide_eq_true_eq] at h
          have hk0 := hall k hk
          simp only [Tk.idle, hnd] at hk0
          simp at hk0
          refine ⟨h.2.2, .inr ⟨rfl, List.length_pos_iff.2 hk0, h.2.1, fun i hi => ?_⟩⟩
          have hi2 : i < bk.ts.length := by rw [hlen]; exact hi
          obtain ⟨_, _, d3'⟩ := L.rel.done hM.2 hR.2 i hi2
          have hn' := L.rel.nlive i hi2
          rw [hp] at d3' hn'
          rw [d3', ← hX, hn']
          have h4 := hall i hi2
          cases hd : bk.ts[i].done with
          | true => exact .inl rfl
          | false =>
            refine .inr ?_
            simp only [Tk.idle, hd] at h4
            simp at h4
            exact List.length_pos_iff.2 h4
      · have hS' := hS
        exact L.take2 hp hf k hk hnd b hS' hb5 o
  have hbck : 0 ≤ cf.bck := L.ok.2.2.2.2.1.1
  have hMi : (M : Int) ≤ 16 := by omega
  have hRi : (R : Int) ≤ 16 := by omega
  rw [hl1] at HQ
  have l2p : (0 : Int) < (leftOf dn 2 R : Int) := by omega
  have hle1 := leftOf_le dn 1 M
  have hle2 := leftOf_le dn 2 R
  clear L S b3 b4 hl1 hl2 hlen hp hf hX hY
  generalize leftOf dn 1 M = l1 at *
  generalize leftOf dn 2 R = l2 at *
  subst hlv
  go_enter Tryz.func40, Tryz.ntmps40
  go_wp2_with (first | (go_at_call 13; refine HQ.out.mono ?_; rintro e w1 (⟨rfl, HA⟩ | ⟨k, b, hk16, rfl, HA⟩)) | (go_at_call 78; first | (refine HB.mono ?_; (first | (have hq := hk16; clear hq; rintro e w3 ⟨rfl, gd, gdn, hb3, HLV, HCS, HTK⟩; have HGD : Hid _ := gd; obtain ⟨g0, g1, g2, g3⟩ := gd.cells; obtain ⟨_, c13, c14, c16, c17, c21, c70, fz⟩ := gd) | (rintro e w3 ⟨rfl, ⟨g0, g1, g2, g3⟩, HC⟩))) | (refine HA.mono ?_; rintro e w2 ⟨rfl, HB⟩)) | (go_at_call 79; refine HC.mono ?_; rintro e w4 ⟨rfl, hfin⟩))
  · go_ret
    exact ⟨rfl, hfin.out⟩
  · have HL3 : Hid (∀ (i : Nat), i < 16 → ∀ W, Below w3.heap.size w3 W → Calls Tryz.prog 81 #[.pointer (some ⟨Wb, 13, none⟩), .int .i64 2, .int .i64 i] W fun e w4 => e = .returned (.tuple #[.int .i64 (X i), .int .i64 (Y i)]) ∧ Gd2 Wb w1.heap.size cf bk.gs k b bk.now la lc M R w4 ∧ w4.cell? ⟨Wb, 22 + 2 * 16 + i, none⟩ = some (.bool (dn 2 i)) ∧ Hid (Below w3.heap.size w3 w4)) := by
      intro i hi16 W hbW
      refine (HLV.out i hi16 W (hb3.out.trans (hbW.mono hb3.out.size)) (HGD.out.below hbW)).mono ?_
      rintro e w4 ⟨rfl, h1, h2, h3⟩
      exact ⟨rfl, h1, h2, hbW.trans (h3.out.mono hbW.size)⟩
    clear HLV
    rcases HCS.out with ⟨hy, ⟨rfl, hx⟩ | ⟨rfl, hx1, hx2, hall⟩⟩
    · have hID : (((bk.gs : Int) + 1) != ((bk.gs : Int) + 1)) = false := by simp
      have hk1 : decide ((k : Int) < 0) = false := by simp
      have hk2 : decide (16 ≤ (k : Int)) = false := by simp; omega
      go_quiet (fail)
      go_wp2_with fail
      go_quiet (fail)
      go_wp2_with fail
      go_region_held3 (fun W => W.cell? ⟨w1.heap.size, 1, none⟩ = some (.int .i64 k) ∧ W.cell? ⟨w1.heap.size, 2, none⟩ = some (.int .i64 2)) (first | exact ⟨g1, g2⟩ | go_keep) ((go_at_call 81; refine (HL3.out k (by omega) _ (by first | exact (below_drewN (below_drewN (Below.refl _ _) _) _).drew | exact (below_drewN (Below.refl _ _) _).drew | exact below_drewN (below_drewN (below_drewN (Below.refl _ _) _) _) _ | exact below_drewN (below_drewN (Below.refl _ _) _) _ | exact below_drewN (Below.refl _ _) _)).mono ?_; rintro e w5 ⟨rfl, gd5, cd5, hb5⟩; rw [hx]; obtain ⟨q0, q1, q2, q3⟩ := gd5.cells; obtain ⟨kgb, k13, k14, k16, k17, k21, k70, kfz⟩ := gd5))
      have hlt := (hp_lt k13)
      clear HL3 HGD HCS
      generalize Y k = yk at *
      have hyy : decide (cf.att ≤ (yk : Int)) = false := by simp; omega
      have hbb : decide (cf.bck < 0) = false := by simp; omega
      go_wp2_with fail
      obtain ⟨HO, HK, HFIN⟩ := HTK.out w5 (hb3.out.trans (hb5.out.mono hb3.out.size)) (.cells #[.int .i64 2, .int .i64 k, .bool false, .bool false, .int .i64 bk.now] 112)
      have HO' : Hid (World.ownsRow _ _ _ _ _ _ _) := HO
      have HK' : Hid (∀ w6 : World, _ → _) := HK
      have HGW : Hid (Wb ≠ w1.heap.size) := by
        show Wb ≠ w1.heap.size
        rintro e
        rw [← e] at kgb
        have h13 := k13
        simp [World.cell?, kgb] at h13
      have HKG : Hid (w5.heap[w1.heap.size]? = _) := kgb
      clear kgb
      have HFIN' : Hid (∀ (v : Value) (w6 : World), _ → _ → _) := HFIN
      clear HO HK HFIN
      have HNW : Hid (∀ (j : Nat) (u : Value), [Value.int .i64 2, .int .i64 k, .bool false, .bool false, .int .i64 bk.now][j]? = some u → ((w5.alloc (.cells #[.int .i64 2, .int .i64 k, .bool false, .bool false, .int .i64 bk.now] 112)).drew).cell? ((⟨w5.heap.size, 0, none⟩ : Addr).add j) = some u) := by
        intro j u hj
        have e : (⟨w5.heap.size, 0, none⟩ : Addr).add j = ⟨w5.heap.size, j, none⟩ := by unfold Addr.add; split <;> simp_all
        rw [e]
        show (w5.alloc _).cell? _ = _
        rw [World.cell?_alloc_at _ _ _ _ (by simp)]
        rcases j with _ | _ | _ | _ | _ | j
        · simpa using hj
        · simpa using hj
        · simpa using hj
        · simpa using hj
        · simpa using hj
        · simp at hj
      have H1 : Hid (∀ u ∈ [Value.int .i64 2, .int .i64 k, .bool false, .bool false, .int .i64 bk.now], u.oneCell' = true) := by
        intro u hu; simp at hu; rcases hu with rfl | rfl | rfl | rfl | rfl <;> rfl
      have HZ : Hid (((w5.alloc (.cells #[.int .i64 2, .int .i64 k, .bool false, .bool false, .int .i64 bk.now] 112)).drew).heap.size = w5.heap.size + 1) := by show _ = _; simp [World.drew]
      have HSA : Hid (∀ o : Obj, (fun W : World => W.cell? ⟨w1.heap.size, 1, none⟩ = some (.int .i64 k) ∧ W.cell? ⟨w1.heap.size, 2, none⟩ = some (.int .i64 2) ∧ W.cell? ⟨w1.heap.size, 3, none⟩ = some (.bool false) ∧ W.cell? ⟨Wb, 70, none⟩ = some (.int .i64 bk.now)) ((w5.alloc o).drew)) := fun o => ⟨(World.cell?_alloc_lt w5 o _ (hp_lt q1)).trans q1, (World.cell?_alloc_lt w5 o _ (hp_lt q2)).trans q2, (World.cell?_alloc_lt w5 o _ (hp_lt q3)).trans q3, (World.cell?_alloc_lt w5 o _ (hp_lt k70)).trans k70⟩
      have hGW : Wb ≠ w1.heap.size := HGW.out
      have HSS : Hid (∀ (W : World) (v : Value), (fun W : World => W.cell? ⟨w1.heap.size, 1, none⟩ = some (.int .i64 k) ∧ W.cell? ⟨w1.heap.size, 2, none⟩ = some (.int .i64 2) ∧ W.cell? ⟨w1.heap.size, 3, none⟩ = some (.bool false) ∧ W.cell? ⟨Wb, 70, none⟩ = some (.int .i64 bk.now)) W → (fun W : World => W.cell? ⟨w1.heap.size, 1, none⟩ = some (.int .i64 k) ∧ W.cell? ⟨w1.heap.size, 2, none⟩ = some (.int .i64 2) ∧ W.cell? ⟨w1.heap.size, 3, none⟩ = some (.bool false) ∧ W.cell? ⟨Wb, 70, none⟩ = some (.int .i64 bk.now)) (W.setCell ⟨Wb, 21, none⟩ v)) := fun W v h => ⟨(World.cell?_setCell_far W _ _ v hGW).trans h.1, (World.cell?_setCell_far W _ _ v hGW).trans h.2.1, (World.cell?_setCell_far W _ _ v hGW).trans h.2.2.1, (World.cell?_setCell_other W _ _ v (by simp)).trans h.2.2.2⟩
      refine wp_region_held_drew (S := fun W => W.cell? ⟨w1.heap.size, 1, none⟩ = some (.int .i64 k) ∧ W.cell? ⟨w1.heap.size, 2, none⟩ = some (.int .i64 2) ∧ W.cell? ⟨w1.heap.size, 3, none⟩ = some (.bool false) ∧ W.cell? ⟨Wb, 70, none⟩ = some (.int .i64 bk.now)) (by kernel_rfl) ⟨q1, q2, q3, k70⟩ (fun hHeld => ?_)
      refine wpAnyH_take (i := 0) (v := (.pointer (some ⟨Wb, 0, none⟩))) rfl (by kernel_rfl) (by kernel_rfl) (by kernel_rfl) (fun _ _ _ h => h) (Or.inl ⟨by rfl, ?_⟩) (by assumption) ?_
      · (intro wz hSz; (try dsimp only at hSz); go_simp)
      try simp only [Act.put]
      refine wpAnyH_take (i := 1) (v := (.pointer (some ⟨Wb, 0, none⟩))) rfl (by kernel_rfl) (by kernel_rfl) (by kernel_rfl) (fun _ _ _ h => h) (Or.inl ⟨by rfl, ?_⟩) (by assumption) ?_
      · (intro wz hSz; (try dsimp only at hSz); go_simp)
      try simp only [Act.put]
      refine wpAnyH_take (i := 2) (v := (.pointer (some ⟨Wb, 0, none⟩))) rfl (by kernel_rfl) (by kernel_rfl) (by kernel_rfl) (fun _ _ _ h => h) (Or.inl ⟨by rfl, ?_⟩) (by assumption) ?_
      · (intro wz hSz; (try dsimp only at hSz); go_simp)
      try simp only [Act.put]
      refine wpAnyH_take (i := 3) (v := (.pointer (some ⟨Wb, 13, none⟩))) rfl (by kernel_rfl) (by kernel_rfl) (by kernel_rfl) (fun _ _ _ h => h) (Or.inl ⟨by rfl, ?_⟩) (by assumption) ?_
      · (intro wz hSz; (try dsimp only at hSz); go_simp)
      try simp only [Act.put]
      refine wpAnyH_take (i := 4) (v := (.pointer (some ⟨Wb, 21, none⟩))) rfl (by kernel_rfl) (by kernel_rfl) (by kernel_rfl) (fun _ _ _ h => h) (Or.inl ⟨by rfl, ?_⟩) (by assumption) ?_
      · (intro wz hSz; (try dsimp only at hSz); go_simp)
      try simp only [Act.put]
      refine wpAnyH_take (i := 6) (v := (.pointer (some ⟨w1.heap.size, 2, none⟩))) rfl (by kernel_rfl) (by kernel_rfl) (by kernel_rfl) (fun _ _ _ h => h) (Or.inl ⟨by rfl, ?_⟩) (by assumption) ?_
      · (intro wz hSz; (try dsimp only at hSz); go_simp)
      try simp only [Act.put]
      refine wpAnyH_take (i := 7) (v := (.int .i64 2)) rfl (by kernel_rfl) (by kernel_rfl) (by kernel_rfl) (fun _ _ _ h => h) (Or.inl ⟨by rfl, ?_⟩) (by assumption) ?_
      · (intro wz hSz; (try dsimp only at hSz); go_simp)
      try simp only [Act.put]
      refine wpAnyH_take (i := 8) (v := (.pointer (some ⟨w1.heap.size, 1, none⟩))) rfl (by kernel_rfl) (by kernel_rfl) (by kernel_rfl) (fun _ _ _ h => h) (Or.inl ⟨by rfl, ?_⟩) (by assumption) ?_
      · (intro wz hSz; (try dsimp only at hSz); go_simp)
      try simp only [Act.put]
      refine wpAnyH_take (i := 9) (v := (.int .i64 k)) rfl (by kernel_rfl) (by kernel_rfl) (by kernel_rfl) (fun _ _ _ h => h) (Or.inl ⟨by rfl, ?_⟩) (by assumption) ?_
      · (intro wz hSz; (try dsimp only at hSz); go_simp)
      try simp only [Act.put]
      refine wpAnyH_take (i := 10) (v := (.pointer (some ⟨w1.heap.size, 3, none⟩))) rfl (by kernel_rfl) (by kernel_rfl) (by kernel_rfl) (fun _ _ _ h => h) (Or.inl ⟨by rfl, ?_⟩) (by assumption) ?_
      · (intro wz hSz; (try dsimp only at hSz); go_simp)
      try simp only [Act.put]
      refine wpAnyH_take (i := 11) (v := (.bool false)) rfl (by kernel_rfl) (by kernel_rfl) (by kernel_rfl) (fun _ _ _ h => h) (Or.inl ⟨by rfl, ?_⟩) (by assumption) ?_
      · (intro wz hSz; (try dsimp only at hSz); go_simp)
      try simp only [Act.put]
      refine wpAnyH_take (i := 12) (v := (.pointer (some ⟨Wb, 0, none⟩))) rfl (by kernel_rfl) (by kernel_rfl) (by kernel_rfl) (fun _ _ _ h => h) (Or.inl ⟨by rfl, ?_⟩) (by assumption) ?_
      · (intro wz hSz; (try dsimp only at hSz); go_simp)
      try simp only [Act.put]
      refine wpAnyH_take (i := 13) (v := (.pointer (some ⟨Wb, 0, none⟩))) rfl (by kernel_rfl) (by kernel_rfl) (by kernel_rfl) (fun _ _ _ h => h) (Or.inl ⟨by rfl, ?_⟩) (by assumption) ?_
      · (intro wz hSz; (try dsimp only at hSz); go_simp)
      try simp only [Act.put]
      refine wpAnyH_take (i := 14) (v := (.pointer (some ⟨Wb, 13, none⟩))) rfl (by kernel_rfl) (by kernel_rfl) (by kernel_rfl) (fun _ _ _ h => h) (Or.inl ⟨by rfl, ?_⟩) (by assumption) ?_
      · (intro wz hSz; (try dsimp only at hSz); go_simp)
      try simp only [Act.put]
      refine wpAnyH_take (i := 15) (v := (.pointer (some ⟨Wb, 70, none⟩))) rfl (by kernel_rfl) (by kernel_rfl) (by kernel_rfl) (fun _ _ _ h => h) (Or.inl ⟨by rfl, ?_⟩) (by assumption) ?_
      · (intro wz hSz; (try dsimp only at hSz); go_simp)
      try simp only [Act.put]
      refine wpAnyH_take (i := 16) (v := (.int .i64 bk.now)) rfl (by kernel_rfl) (by kernel_rfl) (by kernel_rfl) (fun _ _ _ h => h) (Or.inl ⟨by rfl, ?_⟩) (by assumption) ?_
      · (intro wz hSz; (try dsimp only at hSz); go_simp)
      try simp only [Act.put]
      refine wpAnyH_take (i := 17) (v := (.agg #[.int .i64 2, .int .i64 k, .bool false, .bool false, .int .i64 bk.now])) rfl (by kernel_rfl) (by kernel_rfl) (by kernel_rfl) (fun _ _ _ h => h) (Or.inl ⟨by rfl, ?_⟩) (by assumption) ?_
      · (intro wz hSz; (try dsimp only at hSz); go_simp)
      try simp only [Act.put]
      refine wpAnyH_ready (rs := [5, 18]) (by kernel_rfl) (by simp) ?_
      refine AllReadyH.cons rfl (fun K hK => ?_) (AllReadyH.cons rfl (fun K hK => ?_) AllReadyH.nil)
      · go_simp
        refine hK.out _ _ ⟨q1, q2, q3, k70⟩ (fun hHeld => ?_)
        clear hK K
        refine wpAnyH_ready (rs := [18]) (by kernel_rfl) (by simp) ?_
        refine AllReadyH.cons rfl (fun K hK => ?_) AllReadyH.nil
        go_simp
        refine hK.out _ _ (HSA.out _) (fun hHeld => ?_)
        clear hK K
        refine wpAnyH_ready (rs := [19]) (by kernel_rfl) (by simp) ?_
        refine AllReadyH.cons rfl (fun K hK => ?_) AllReadyH.nil
        refine step_append_lies _ rfl (.tmp 202) (.tmp 215) 37 rfl Wb 112 i0 (.agg #[.int .i64 0, .int .i64 0, .bool false, .bool false, .int .i64 0]) 5 32 Tryz.underlying37 hi hz0 hz1 hz2 rfl (by decide) (.slice la bk.gs lc) bk.gs (gc l) (by simp [Act.eval]) HO'.out ⟨w5.heap.size, 0, none⟩ 1 1 [.int .i64 2, .int .i64 k, .bool false, .bool false, .int .i64 bk.now] (by simp [Act.eval]) rfl HNW.out H1.out (by decide) (by unfold maxLen; omega) (by omega) (by rw [HZ.out]; omega) (w5.heap.size + 1) HZ.out ?_; intro g cap w6 hown2 hg2 hgg hlt2; obtain ⟨⟨d9, e9⟩, t70, tG⟩ := HK'.out w6 hg2; rw [k70] at t70; have tGb := tG _ _ HKG.out; have t1 : w6.cell? ⟨w1.heap.size, 1, none⟩ = some (.int .i64 k) := (by simp [World.cell?, tGb]); have t2 : w6.cell? ⟨w1.heap.size, 2, none⟩ = some (.int .i64 2) := (by simp [World.cell?, tGb]); have t3 : w6.cell? ⟨w1.heap.size, 3, none⟩ = some (.bool false) := (by simp [World.cell?, tGb]); clear tG tGb
        refine hK.out _ _ ⟨t1, t2, t3, t70⟩ (fun hHeld => ?_)
        clear hK K
        refine wpAnyH_take (i := 20) (v := (.pointer (some ⟨Wb, 0, none⟩))) rfl (by kernel_rfl) (by kernel_rfl) (by kernel_rfl) (fun _ _ _ h => h) (Or.inl ⟨by rfl, ?_⟩) (by assumption) ?_
        · (intro wz hSz; (try dsimp only at hSz); go_simp)
        try simp only [Act.put]
        refine wpAnyH_take (i := 21) (v := (.pointer (some ⟨Wb, 13, none⟩))) rfl (by kernel_rfl) (by kernel_rfl) (by kernel_rfl) (fun _ _ _ h => h) (Or.inl ⟨by rfl, ?_⟩) (by assumption) ?_
        · (intro wz hSz; (try dsimp only at hSz); go_simp)
        try simp only [Act.put]
        refine wpAnyH_take (i := 22) (v := (.pointer (some ⟨Wb, 21, none⟩))) rfl (by kernel_rfl) (by kernel_rfl) (by kernel_rfl) (fun _ _ _ h => h) (Or.inl ⟨by rfl, ?_⟩) (by assumption) ?_
        · (intro wz hSz; (try dsimp only at hSz); go_simp)
        try simp only [Act.put]
        refine wpAnyH_ready (rs := [23]) (by kernel_rfl) (by simp) ?_
        refine AllReadyH.cons rfl (fun K hK => ?_) AllReadyH.nil
        go_simp
        refine hK.out _ _ (HSS.out _ _ ⟨t1, t2, t3, t70⟩) (fun hHeld => ?_)
        clear hK K
        refine wpAnyH_done (by kernel_rfl) ?_ _
        go_wp2
        go_ret
        exact ⟨rfl, HFIN'.out _ _ hown2 hg2⟩
      · go_simp
        refine hK.out _ _ (HSA.out _) (fun hHeld => ?_)
        clear hK K
        refine wpAnyH_ready (rs := [5]) (by kernel_rfl) (by simp) ?_
        refine AllReadyH.cons rfl (fun K hK => ?_) AllReadyH.nil
        go_simp
        refine hK.out _ _ (HSA.out _) (fun hHeld => ?_)
        clear hK K
        refine wpAnyH_ready (rs := [19]) (by kernel_rfl) (by simp) ?_
        refine AllReadyH.cons rfl (fun K hK => ?_) AllReadyH.nil
        refine step_append_lies _ rfl (.tmp 202) (.tmp 215) 37 rfl Wb 112 i0 (.agg #[.int .i64 0, .int .i64 0, .bool false, .bool false, .int .i64 0]) 5 32 Tryz.underlying37 hi hz0 hz1 hz2 rfl (by decide) (.slice la bk.gs lc) bk.gs (gc l) (by simp [Act.eval]) HO'.out ⟨w5.heap.size, 0, none⟩ 1 1 [.int .i64 2, .int .i64 k, .bool false, .bool false, .int .i64 bk.now] (by simp [Act.eval]) rfl HNW.out H1.out (by decide) (by unfold maxLen; omega) (by omega) (by rw [HZ.out]; omega) (w5.heap.size + 1) HZ.out ?_; intro g cap w6 hown2 hg2 hgg hlt2; obtain ⟨⟨d9, e9⟩, t70, tG⟩ := HK'.out w6 hg2; rw [k70] at t70; have tGb := tG _ _ HKG.out; have t1 : w6.cell? ⟨w1.heap.size, 1, none⟩ = some (.int .i64 k) := (by simp [World.cell?, tGb]); have t2 : w6.cell? ⟨w1.heap.size, 2, none⟩ = some (.int .i64 2) := (by simp [World.cell?, tGb]); have t3 : w6.cell? ⟨w1.heap.size, 3, none⟩ = some (.bool false) := (by simp [World.cell?, tGb]); clear tG tGb
        refine hK.out _ _ ⟨t1, t2, t3, t70⟩ (fun hHeld => ?_)
        clear hK K
        refine wpAnyH_take (i := 20) (v := (.pointer (some ⟨Wb, 0, none⟩))) rfl (by kernel_rfl) (by kernel_rfl) (by kernel_rfl) (fun _ _ _ h => h) (Or.inl ⟨by rfl, ?_⟩) (by assumption) ?_
        · (intro wz hSz; (try dsimp only at hSz); go_simp)
        try simp only [Act.put]
        refine wpAnyH_take (i := 21) (v := (.pointer (some ⟨Wb, 13, none⟩))) rfl (by kernel_rfl) (by kernel_rfl) (by kernel_rfl) (fun _ _ _ h => h) (Or.inl ⟨by rfl, ?_⟩) (by assumption) ?_
        · (intro wz hSz; (try dsimp only at hSz); go_simp)
        try simp only [Act.put]
        refine wpAnyH_take (i := 22) (v := (.pointer (some ⟨Wb, 21, none⟩))) rfl (by kernel_rfl) (by kernel_rfl) (by kernel_rfl) (fun _ _ _ h => h) (Or.inl ⟨by rfl, ?_⟩) (by assumption) ?_
        · (intro wz hSz; (try dsimp only at hSz); go_simp)
        try simp only [Act.put]
        refine wpAnyH_ready (rs := [23]) (by kernel_rfl) (by simp) ?_
        refine AllReadyH.cons rfl (fun K hK => ?_) AllReadyH.nil
        go_simp
        refine hK.out _ _ (HSS.out _ _ ⟨t1, t2, t3, t70⟩) (fun hHeld => ?_)
        clear hK K
        refine wpAnyH_done (by kernel_rfl) ?_ _
        go_wp2
        go_ret
        exact ⟨rfl, HFIN'.out _ _ hown2 hg2⟩
    · have hID : (((bk.gs : Int) + 1) != ((bk.gs : Int) + 1)) = false := by simp
      have hk1 : decide ((k : Int) < 0) = false := by simp
      have hk2 : decide (16 ≤ (k : Int)) = false := by simp; omega
      have HALL : Hid (∀ i, i < R → dn 2 i = true ∨ 0 < X i) := hall
      clear hall
      go_quiet (fail)
      go_wp2_with fail
      go_quiet (fail)
      go_wp2_with fail
      go_region_held3 (fun W => W.cell? ⟨w1.heap.size, 1, none⟩ = some (.int .i64 k) ∧ W.cell? ⟨w1.heap.size, 2, none⟩ = some (.int .i64 2)) (first | exact ⟨g1, g2⟩ | go_keep) ((go_at_call 81; refine (HL3.out k (by omega) _ (by first | exact (below_drewN (below_drewN (Below.refl _ _) _) _).drew | exact (below_drewN (Below.refl _ _) _).drew | exact below_drewN (below_drewN (below_drewN (Below.refl _ _) _) _) _ | exact below_drewN (below_drewN (Below.refl _ _) _) _ | exact below_drewN (Below.refl _ _) _)).mono ?_; rintro e w5 ⟨rfl, gd5, cd5, hb5⟩; have HGD5 : Hid _ := gd5; obtain ⟨q0, q1, q2, q3⟩ := gd5.cells; obtain ⟨kgb, k13, k14, k16, k17, k21, k70, kfz⟩ := gd5))
      clear HGD HCS kgb
      generalize Y k = yk at *
      have hyy : decide (cf.att ≤ (yk : Int)) = false := by simp; omega
      generalize X k = xk at *
      have hbb : decide (cf.bck < (xk : Int)) = false := by simp; omega
      have hpp : decide ((0 : Int) < (xk : Int)) = true := by simp; omega
      go_wp2_with fail
      go_loopw [12] (fun iv wr => ∃ i : Nat, i ≤ R ∧ iv = .int .i64 i ∧ Below w3.heap.size w3 wr ∧ Gd2 Wb w1.heap.size cf bk.gs k true bk.now la lc M R wr) (fun iv _ => R - (intOf iv).toNat)
      case atStart => exact ⟨0, Nat.zero_le _, rfl, hb5.out, HGD5.out⟩
      case round =>
        obtain ⟨i, hi2, rfl, hbr, gdr⟩ := hrel
        by_cases hil : i < R
        · obtain ⟨u0, u1', u2', u3'⟩ := gdr.cells
          have HLr : Hid (∀ q, Calls Tryz.prog 81 #[.pointer (some ⟨Wb, 13, none⟩), .int .i64 2, .int .i64 i] ((wr.drewN q).drew) fun e w4 => e = .returned (.tuple #[.int .i64 (X i), .int .i64 (Y i)]) ∧ Gd2 Wb w1.heap.size cf bk.gs k true bk.now la lc M R w4 ∧ w4.cell? ⟨Wb, 22 + 2 * 16 + i, none⟩ = some (.bool (dn 2 i)) ∧ Hid (Below w3.heap.size w3 w4)) := fun q => HL3.out i (by omega) _ (below_drewN hbr q).drew
          have HL0 : Hid (Calls Tryz.prog 81 #[.pointer (some ⟨Wb, 13, none⟩), .int .i64 2, .int .i64 i] wr.drew fun e w4 => e = .returned (.tuple #[.int .i64 (X i), .int .i64 (Y i)]) ∧ Gd2 Wb w1.heap.size cf bk.gs k true bk.now la lc M R w4 ∧ w4.cell? ⟨Wb, 22 + 2 * 16 + i, none⟩ = some (.bool (dn 2 i)) ∧ Hid (Below w3.heap.size w3 w4)) := HL3.out i (by omega) _ hbr.drew
          have ha := HALL.out i hil
          have hi16 : (i : Int) < 16 := by omega
          clear gdr HL3 HALL HGD5 HTK HLr q0 q1 q2 q3 k13 k14 k16 k17 k21 k70 kfz g0 g1 g2 g3 c13 c14 c16 c17 c21 c70 fz cd5 gdn hbr
          generalize X i = xi at *
          generalize Y i = yi at *
          generalize dn 2 i = d at *
          cases d with
          | true =>
            clear ha
            go_wp2_with fail
            go_region_held3 (fun W => W.cell? ⟨w1.heap.size, 2, none⟩ = some (.int .i64 2)) (first | exact u2' | go_keep) ((go_at_call 81; refine HL0.out.mono ?_; rintro e w7 ⟨rfl, gd7, cd7, hb7⟩; have HGD7 : Hid _ := gd7; obtain ⟨j0, j1, j2, j3⟩ := gd7.cells; clear gd7))
            go_wp2_with fail
            go_quiet (fail)
            go_wp2
            go_roundw
            case rel => exact ⟨i + 1, by omega, by go_num, below_drewN hb7.out _, HGD7.out.below (below_drewN (Below.refl _ _) _)⟩
            case measure => simp [intOf]; omega
          | false =>
            have hx0 : ((xi : Int) == 0) = false := by
              rcases ha with h | h
              · cases h
              · simp; omega
            clear ha
            go_wp2_with fail
            go_region_held3 (fun W => W.cell? ⟨w1.heap.size, 2, none⟩ = some (.int .i64 2)) (first | exact u2' | go_keep) ((go_at_call 81; refine HL0.out.mono ?_; rintro e w7 ⟨rfl, gd7, cd7, hb7⟩; have HGD7 : Hid _ := gd7; obtain ⟨j0, j1, j2, j3⟩ := gd7.cells; clear gd7))
            go_wp2_with fail
            go_quiet (fail)
            go_wp2
            go_roundw
            case rel => exact ⟨i + 1, by omega, by go_num, below_drewN hb7.out _, HGD7.out.below (below_drewN (Below.refl _ _) _)⟩
            case measure => simp [intOf]; omega
        · have HBR : Hid (Below w3.heap.size w3 wr) := hbr
          clear HGD5 HL3 HALL q0 q1 q2 q3 k13 k14 k16 k17 k21 k70 kfz g0 g1 g2 g3 c13 c14 c16 c17 c21 c70 fz cd5 gdn hbr
          obtain ⟨q0, q1, q2, q3⟩ := gdr.cells
          obtain ⟨kgb, k13, k14, k16, k17, k21, k70, kfz⟩ := gdr
          have hlt := (hp_lt k13)
          go_wp2_with fail
          obtain ⟨HO, HK, HFIN⟩ := HTK.out wr (hb3.out.trans (HBR.out.mono hb3.out.size)) (.cells #[.int .i64 2, .int .i64 k, .bool true, .bool false, .int .i64 bk.now] 112)
          have HO' : Hid (World.ownsRow _ _ _ _ _ _ _) := HO
          have HK' : Hid (∀ w6 : World, _ → _) := HK
          have HGW : Hid (Wb ≠ w1.heap.size) := by
            show Wb ≠ w1.heap.size
            rintro e
            rw [← e] at kgb
            have h13 := k13
            simp [World.cell?, kgb] at h13
          have HKG : Hid (wr.heap[w1.heap.size]? = _) := kgb
          clear kgb
          have HFIN' : Hid (∀ (v : Value) (w6 : World), _ → _ → _) := HFIN
          clear HO HK HFIN
          have HNW : Hid (∀ (j : Nat) (u : Value), [Value.int .i64 2, .int .i64 k, .bool true, .bool false, .int .i64 bk.now][j]? = some u → ((wr.alloc (.cells #[.int .i64 2, .int .i64 k, .bool true, .bool false, .int .i64 bk.now] 112)).drew).cell? ((⟨wr.heap.size, 0, none⟩ : Addr).add j) = some u) := by
            intro j u hj
            have e : (⟨wr.heap.size, 0, none⟩ : Addr).add j = ⟨wr.heap.size, j, none⟩ := by unfold Addr.add; split <;> simp_all
            rw [e]
            show (wr.alloc _).cell? _ = _
            rw [World.cell?_alloc_at _ _ _ _ (by simp)]
            rcases j with _ | _ | _ | _ | _ | j
            · simpa using hj
            · simpa using hj
            · simpa using hj
            · simpa using hj
            · simpa using hj
            · simp at hj
          have H1 : Hid (∀ u ∈ [Value.int .i64 2, .int .i64 k, .bool true, .bool false, .int .i64 bk.now], u.oneCell' = true) := by
            intro u hu; simp at hu; rcases hu with rfl | rfl | rfl | rfl | rfl <;> rfl
          have HZ : Hid (((wr.alloc (.cells #[.int .i64 2, .int .i64 k, .bool true, .bool false, .int .i64 bk.now] 112)).drew).heap.size = wr.heap.size + 1) := by show _ = _; simp [World.drew]
          have HSA : Hid (∀ o : Obj, (fun W : World => W.cell? ⟨w1.heap.size, 1, none⟩ = some (.int .i64 k) ∧ W.cell? ⟨w1.heap.size, 2, none⟩ = some (.int .i64 2) ∧ W.cell? ⟨w1.heap.size, 3, none⟩ = some (.bool true) ∧ W.cell? ⟨Wb, 70, none⟩ = some (.int .i64 bk.now)) ((wr.alloc o).drew)) := fun o => ⟨(World.cell?_alloc_lt wr o _ (hp_lt q1)).trans q1, (World.cell?_alloc_lt wr o _ (hp_lt q2)).trans q2, (World.cell?_alloc_lt wr o _ (hp_lt q3)).trans q3, (World.cell?_alloc_lt wr o _ (hp_lt k70)).trans k70⟩
          have hGW : Wb ≠ w1.heap.size := HGW.out
          have HSS : Hid (∀ (W : World) (v : Value), (fun W : World => W.cell? ⟨w1.heap.size, 1, none⟩ = some (.int .i64 k) ∧ W.cell? ⟨w1.heap.size, 2, none⟩ = some (.int .i64 2) ∧ W.cell? ⟨w1.heap.size, 3, none⟩ = some (.bool true) ∧ W.cell? ⟨Wb, 70, none⟩ = some (.int .i64 bk.now)) W → (fun W : World => W.cell? ⟨w1.heap.size, 1, none⟩ = some (.int .i64 k) ∧ W.cell? ⟨w1.heap.size, 2, none⟩ = some (.int .i64 2) ∧ W.cell? ⟨w1.heap.size, 3, none⟩ = some (.bool true) ∧ W.cell? ⟨Wb, 70, none⟩ = some (.int .i64 bk.now)) (W.setCell ⟨Wb, 21, none⟩ v)) := fun W v h => ⟨(World.cell?_setCell_far W _ _ v hGW).trans h.1, (World.cell?_setCell_far W _ _ v hGW).trans h.2.1, (World.cell?_setCell_far W _ _ v hGW).trans h.2.2.1, (World.cell?_setCell_other W _ _ v (by simp)).trans h.2.2.2⟩
          refine wp_region_held_drew (S := fun W => W.cell? ⟨w1.heap.size, 1, none⟩ = some (.int .i64 k) ∧ W.cell? ⟨w1.heap.size, 2, none⟩ = some (.int .i64 2) ∧ W.cell? ⟨w1.heap.size, 3, none⟩ = some (.bool true) ∧ W.cell? ⟨Wb, 70, none⟩ = some (.int .i64 bk.now)) (by kernel_rfl) ⟨q1, q2, q3, k70⟩ (fun hHeld => ?_)
          refine wpAnyH_take (i := 0) (v := (.pointer (some ⟨Wb, 0, none⟩))) rfl (by kernel_rfl) (by kernel_rfl) (by kernel_rfl) (fun _ _ _ h => h) (Or.inl ⟨by rfl, ?_⟩) (by assumption) ?_
          · (intro wz hSz; (try dsimp only at hSz); go_simp)
          try simp only [Act.put]
          refine wpAnyH_take (i := 1) (v := (.pointer (some ⟨Wb, 0, none⟩))) rfl (by kernel_rfl) (by kernel_rfl) (by kernel_rfl) (fun _ _ _ h => h) (Or.inl ⟨by rfl, ?_⟩) (by assumption) ?_
          · (intro wz hSz; (try dsimp only at hSz); go_simp)
          try simp only [Act.put]
          refine wpAnyH_take (i := 2) (v := (.pointer (some ⟨Wb, 0, none⟩))) rfl (by kernel_rfl) (by kernel_rfl) (by kernel_rfl) (fun _ _ _ h => h) (Or.inl ⟨by rfl, ?_⟩) (by assumption) ?_
          · (intro wz hSz; (try dsimp only at hSz); go_simp)
          try simp only [Act.put]
          refine wpAnyH_take (i := 3) (v := (.pointer (some ⟨Wb, 13, none⟩))) rfl (by kernel_rfl) (by kernel_rfl) (by kernel_rfl) (fun _ _ _ h => h) (Or.inl ⟨by rfl, ?_⟩) (by assumption) ?_
          · (intro wz hSz; (try dsimp only at hSz); go_simp)
          try simp only [Act.put]
          refine wpAnyH_take (i := 4) (v := (.pointer (some ⟨Wb, 21, none⟩))) rfl (by kernel_rfl) (by kernel_rfl) (by kernel_rfl) (fun _ _ _ h => h) (Or.inl ⟨by rfl, ?_⟩) (by assumption) ?_
          · (intro wz hSz; (try dsimp only at hSz); go_simp)
          try simp only [Act.put]
          refine wpAnyH_take (i := 6) (v := (.pointer (some ⟨w1.heap.size, 2, none⟩))) rfl (by kernel_rfl) (by kernel_rfl) (by kernel_rfl) (fun _ _ _ h => h) (Or.inl ⟨by rfl, ?_⟩) (by assumption) ?_
          · (intro wz hSz; (try dsimp only at hSz); go_simp)
          try simp only [Act.put]
          refine wpAnyH_take (i := 7) (v := (.int .i64 2)) rfl (by kernel_rfl) (by kernel_rfl) (by kernel_rfl) (fun _ _ _ h => h) (Or.inl ⟨by rfl, ?_⟩) (by assumption) ?_
          · (intro wz hSz; (try dsimp only at hSz); go_simp)
          try simp only [Act.put]
          refine wpAnyH_take (i := 8) (v := (.pointer (some ⟨w1.heap.size, 1, none⟩))) rfl (by kernel_rfl) (by kernel_rfl) (by kernel_rfl) (fun _ _ _ h => h) (Or.inl ⟨by rfl, ?_⟩) (by assumption) ?_
          · (intro wz hSz; (try dsimp only at hSz); go_simp)
          try simp only [Act.put]
          refine wpAnyH_take (i := 9) (v := (.int .i64 k)) rfl (by kernel_rfl) (by kernel_rfl) (by kernel_rfl) (fun _ _ _ h => h) (Or.inl ⟨by rfl, ?_⟩) (by assumption) ?_
          · (intro wz hSz; (try dsimp only at hSz); go_simp)
          try simp only [Act.put]
          refine wpAnyH_take (i := 10) (v := (.pointer (some ⟨w1.heap.size, 3, none⟩))) rfl (by kernel_rfl) (by kernel_rfl) (by kernel_rfl) (fun _ _ _ h => h) (Or.inl ⟨by rfl, ?_⟩) (by assumption) ?_
          · (intro wz hSz; (try dsimp only at hSz); go_simp)
          try simp only [Act.put]
          refine wpAnyH_take (i := 11) (v := (.bool true)) rfl (by kernel_rfl) (by kernel_rfl) (by kernel_rfl) (fun _ _ _ h => h) (Or.inl ⟨by rfl, ?_⟩) (by assumption) ?_
          · (intro wz hSz; (try dsimp only at hSz); go_simp)
          try simp only [Act.put]
          refine wpAnyH_take (i := 12) (v := (.pointer (some ⟨Wb, 0, none⟩))) rfl (by kernel_rfl) (by kernel_rfl) (by kernel_rfl) (fun _ _ _ h => h) (Or.inl ⟨by rfl, ?_⟩) (by assumption) ?_
          · (intro wz hSz; (try dsimp only at hSz); go_simp)
          try simp only [Act.put]
          refine wpAnyH_take (i := 13) (v := (.pointer (some ⟨Wb, 0, none⟩))) rfl (by kernel_rfl) (by kernel_rfl) (by kernel_rfl) (fun _ _ _ h => h) (Or.inl ⟨by rfl, ?_⟩) (by assumption) ?_
          · (intro wz hSz; (try dsimp only at hSz); go_simp)
          try simp only [Act.put]
          refine wpAnyH_take (i := 14) (v := (.pointer (some ⟨Wb, 13, none⟩))) rfl (by kernel_rfl) (by kernel_rfl) (by kernel_rfl) (fun _ _ _ h => h) (Or.inl ⟨by rfl, ?_⟩) (by assumption) ?_
          · (intro wz hSz; (try dsimp only at hSz); go_simp)
          try simp only [Act.put]
          refine wpAnyH_take (i := 15) (v := (.pointer (some ⟨Wb, 70, none⟩))) rfl (by kernel_rfl) (by kernel_rfl) (by kernel_rfl) (fun _ _ _ h => h) (Or.inl ⟨by rfl, ?_⟩) (by assumption) ?_
          · (intro wz hSz; (try dsimp only at hSz); go_simp)
          try simp only [Act.put]
          refine wpAnyH_take (i := 16) (v := (.int .i64 bk.now)) rfl (by kernel_rfl) (by kernel_rfl) (by kernel_rfl) (fun _ _ _ h => h) (Or.inl ⟨by rfl, ?_⟩) (by assumption) ?_
          · (intro wz hSz; (try dsimp only at hSz); go_simp)
          try simp only [Act.put]
          refine wpAnyH_take (i := 17) (v := (.agg #[.int .i64 2, .int .i64 k, .bool true, .bool false, .int .i64 bk.now])) rfl (by kernel_rfl) (by kernel_rfl) (by kernel_rfl) (fun _ _ _ h => h) (Or.inl ⟨by rfl, ?_⟩) (by assumption) ?_
          · (intro wz hSz; (try dsimp only at hSz); go_simp)
          try simp only [Act.put]
          refine wpAnyH_ready (rs := [5, 18]) (by kernel_rfl) (by simp) ?_
          refine AllReadyH.cons rfl (fun K hK => ?_) (AllReadyH.cons rfl (fun K hK => ?_) AllReadyH.nil)
          · go_simp
            refine hK.out _ _ ⟨q1, q2, q3, k70⟩ (fun hHeld => ?_)
            clear hK K
            refine wpAnyH_ready (rs := [18]) (by kernel_rfl) (by simp) ?_
            refine AllReadyH.cons rfl (fun K hK => ?_) AllReadyH.nil
            go_simp
            refine hK.out _ _ (HSA.out _) (fun hHeld => ?_)
            clear hK K
            refine wpAnyH_ready (rs := [19]) (by kernel_rfl) (by simp) ?_
            refine AllReadyH.cons rfl (fun K hK => ?_) AllReadyH.nil
            refine step_append_lies _ rfl (.tmp 202) (.tmp 215) 37 rfl Wb 112 i0 (.agg #[.int .i64 0, .int .i64 0, .bool false, .bool false, .int .i64 0]) 5 32 Tryz.underlying37 hi hz0 hz1 hz2 rfl (by decide) (.slice la bk.gs lc) bk.gs (gc l) (by simp [Act.eval]) HO'.out ⟨wr.heap.size, 0, none⟩ 1 1 [.int .i64 2, .int .i64 k, .bool true, .bool false, .int .i64 bk.now] (by simp [Act.eval]) rfl HNW.out H1.out (by decide) (by unfold maxLen; omega) (by omega) (by rw [HZ.out]; omega) (wr.heap.size + 1) HZ.out ?_; intro g cap w6 hown2 hg2 hgg hlt2; obtain ⟨⟨d9, e9⟩, t70, tG⟩ := HK'.out w6 hg2; rw [k70] at t70; have tGb := tG _ _ HKG.out; have t1 : w6.cell? ⟨w1.heap.size, 1, none⟩ = some (.int .i64 k) := (by simp [World.cell?, tGb]); have t2 : w6.cell? ⟨w1.heap.size, 2, none⟩ = some (.int .i64 2) := (by simp [World.cell?, tGb]); have t3 : w6.cell? ⟨w1.heap.size, 3, none⟩ = some (.bool true) := (by simp [World.cell?, tGb]); clear tG tGb
            refine hK.out _ _ ⟨t1, t2, t3, t70⟩ (fun hHeld => ?_)
            clear hK K
            refine wpAnyH_take (i := 20) (v := (.pointer (some ⟨Wb, 0, none⟩))) rfl (by kernel_rfl) (by kernel_rfl) (by kernel_rfl) (fun _ _ _ h => h) (Or.inl ⟨by rfl, ?_⟩) (by assumption) ?_
            · (intro wz hSz; (try dsimp only at hSz); go_simp)
            try simp only [Act.put]
            refine wpAnyH_take (i := 21) (v := (.pointer (some ⟨Wb, 13, none⟩))) rfl (by kernel_rfl) (by kernel_rfl) (by kernel_rfl) (fun _ _ _ h => h) (Or.inl ⟨by rfl, ?_⟩) (by assumption) ?_
            · (intro wz hSz; (try dsimp only at hSz); go_simp)
            try simp only [Act.put]
            refine wpAnyH_take (i := 22) (v := (.pointer (some ⟨Wb, 21, none⟩))) rfl (by kernel_rfl) (by kernel_rfl) (by kernel_rfl) (fun _ _ _ h => h) (Or.inl ⟨by rfl, ?_⟩) (by assumption) ?_
            · (intro wz hSz; (try dsimp only at hSz); go_simp)
            try simp only [Act.put]
            refine wpAnyH_ready (rs := [23]) (by kernel_rfl) (by simp) ?_
            refine AllReadyH.cons rfl (fun K hK => ?_) AllReadyH.nil
            go_simp
            refine hK.out _ _ (HSS.out _ _ ⟨t1, t2, t3, t70⟩) (fun hHeld => ?_)
            clear hK K
            refine wpAnyH_done (by kernel_rfl) ?_ _
            go_wp2
            go_ret
            exact ⟨rfl, HFIN'.out _ _ hown2 hg2⟩
          · go_simp
            refine hK.out _ _ (HSA.out _) (fun hHeld => ?_)
            clear hK K
            refine wpAnyH_ready (rs := [5]) (by kernel_rfl) (by simp) ?_
            refine AllReadyH.cons rfl (fun K hK => ?_) AllReadyH.nil
            go_simp
            refine hK.out _ _ (HSA.out _) (fun hHeld => ?_)
            clear hK K
            refine wpAnyH_ready (rs := [19]) (by kernel_rfl) (by simp) ?_
            refine AllReadyH.cons rfl (fun K hK => ?_) AllReadyH.nil
            refine step_append_lies _ rfl (.tmp 202) (.tmp 215) 37 rfl Wb 112 i0 (.agg #[.int .i64 0, .int .i64 0, .bool false, .bool false, .int .i64 0]) 5 32 Tryz.underlying37 hi hz0 hz1 hz2 rfl (by decide) (.slice la bk.gs lc) bk.gs (gc l) (by simp [Act.eval]) HO'.out ⟨wr.heap.size, 0, none⟩ 1 1 [.int .i64 2, .int .i64 k, .bool true, .bool false, .int .i64 bk.now] (by simp [Act.eval]) rfl HNW.out H1.out (by decide) (by unfold maxLen; omega) (by omega) (by rw [HZ.out]; omega) (wr.heap.size + 1) HZ.out ?_; intro g cap w6 hown2 hg2 hgg hlt2; obtain ⟨⟨d9, e9⟩, t70, tG⟩ := HK'.out w6 hg2; rw [k70] at t70; have tGb := tG _ _ HKG.out; have t1 : w6.cell? ⟨w1.heap.size, 1, none⟩ = some (.int .i64 k) := (by simp [World.cell?, tGb]); have t2 : w6.cell? ⟨w1.heap.size, 2, none⟩ = some (.int .i64 2) := (by simp [World.cell?, tGb]); have t3 : w6.cell? ⟨w1.heap.size, 3, none⟩ = some (.bool true) := (by simp [World.cell?, tGb]); clear tG tGb
            refine hK.out _ _ ⟨t1, t2, t3, t70⟩ (fun hHeld => ?_)
            clear hK K
            refine wpAnyH_take (i := 20) (v := (.pointer (some ⟨Wb, 0, none⟩))) rfl (by kernel_rfl) (by kernel_rfl) (by kernel_rfl) (fun _ _ _ h => h) (Or.inl ⟨by rfl, ?_⟩) (by assumption) ?_
            · (intro wz hSz; (try dsimp only at hSz); go_simp)
            try simp only [Act.put]
            refine wpAnyH_take (i := 21) (v := (.pointer (some ⟨Wb, 13, none⟩))) rfl (by kernel_rfl) (by kernel_rfl) (by kernel_rfl) (fun _ _ _ h => h) (Or.inl ⟨by rfl, ?_⟩) (by assumption) ?_
            · (intro wz hSz; (try dsimp only at hSz); go_simp)
            try simp only [Act.put]
            refine wpAnyH_take (i := 22) (v := (.pointer (some ⟨Wb, 21, none⟩))) rfl (by kernel_rfl) (by kernel_rfl) (by kernel_rfl) (fun _ _ _ h => h) (Or.inl ⟨by rfl, ?_⟩) (by assumption) ?_
            · (intro wz hSz; (try dsimp only at hSz); go_simp)
            try simp only [Act.put]
            refine wpAnyH_ready (rs := [23]) (by kernel_rfl) (by simp) ?_
            refine AllReadyH.cons rfl (fun K hK => ?_) AllReadyH.nil
            go_simp
            refine hK.out _ _ (HSS.out _ _ ⟨t1, t2, t3, t70⟩) (fun hHeld => ?_)
            clear hK K
            refine wpAnyH_done (by kernel_rfl) ?_ _
            go_wp2
            go_ret
            exact ⟨rfl, HFIN'.out _ _ hown2 hg2⟩
end Go.Proofs.YtibofakbhgmhiabGreatDoor

namespace Go.Proofs.YtibofakbhgmhiabGreatDoor
open Go.RowKit Go.MuLone

set_option maxHeartbeats 4000000 in
set_option maxRecDepth 100000 in
theorem callCommit1 {Wb : Nat} {w : World} {cf : Cf} {M R Tb : Nat} {bk : Bk} {l : List Gr} {dn : Nat → Nat → Bool} {lv tv : Value} {vs : List Value} {N : Nat} (L : LS Wb w cf M R Tb bk l dn lv tv vs N) (a : Nat → Addr) (S : SL Wb w a) (hN : N ≤ 1048576) (A B C : Int) (s t : ByteArray) (hA1 : -9223372036854775808 ≤ A) (hA2 : A ≤ 9223372036854775807) (hA : pk6 A = 2) (hp : bk.ph = 1) :
    Calls Tryz.prog 25 #[.pointer (some ⟨Wb, 0, none⟩), .agg #[.int .i64 9, .int .i64 A, .int .i64 B, .int .i64 C, .string s, .string t]] w fun e w' => e = .returned (.bool true) ∧ Fin Wb cf M R Tb N w w' := by
  obtain ⟨hM, hR, b1, b2, b3, b4, b5, b6⟩ := L.bounds hN
  obtain ⟨L0, lb0, lf0⟩ := L.op (.cells #[.int .i64 9, .int .i64 A, .int .i64 B, .int .i64 C, .string s, .string t] 45)
  have S0 := S.low lb0
  have c11 := (World.cell?_alloc_lt w (.cells #[.int .i64 9, .int .i64 A, .int .i64 B, .int .i64 C, .string s, .string t] 45) _ (hp_lt L.t)).trans L.t
  have c12 := (World.cell?_alloc_lt w (.cells #[.int .i64 9, .int .i64 A, .int .i64 B, .int .i64 C, .string s, .string t] 45) _ (hp_lt L.m)).trans L.m
  have cB : (w.alloc (.cells #[.int .i64 9, .int .i64 A, .int .i64 B, .int .i64 C, .string s, .string t] 45)).cell? ⟨w.heap.size, 2, none⟩ = some (.int .i64 B) := by rw [World.cell?_alloc_at _ _ _ _ (by simp)]; rfl
  have hpk : Hid (∀ W, Calls Tryz.prog 19 #[.int .i64 A, .int .i64 6] W fun e w' => e = .returned (.int .i64 2) ∧ w' = W) := fun W => by
    have := pick6 A W hA1 hA2
    rw [hA] at this
    exact this
  have HP : Hid (Calls Tryz.prog 14 #[.pointer (some ⟨Tb, 0, none⟩), .int .i64 B] ((w.alloc (.cells #[.int .i64 9, .int .i64 A, .int .i64 B, .int .i64 C, .string s, .string t] 45)).drew) fun e w1 => ∃ n, e = .returned (.int .i64 n) ∧ (w1.cell? ⟨w.heap.size, 2, none⟩ = some (.int .i64 B) ∧ w1.cell? ⟨Wb, 11, none⟩ = some (.pointer (some ⟨Tb, 0, none⟩))) ∧ Calls Tryz.prog 42 #[.pointer (some ⟨Wb, 0, none⟩), .int .i64 B, .int .i64 n] w1 fun e w2 => e = .returned (.bool true) ∧ ((n = n ∧ (n == 0) = false ∧ Hid (Fin Wb cf M R Tb N w w2)) ∨
      (n = 0 ∧ ∃ (j g c k : Nat) (bu ov : Bool) (hd : Nat) (bk' : Bk), B = (j : Int) + 1 ∧ (j : Int) < (l.length : Int) ∧ (k : Int) < 16 ∧ lv = .slice (some ⟨g, 0, none⟩) l.length c ∧ w2.cell? ⟨w.heap.size, 2, none⟩ = some (.int .i64 B) ∧ w2.cell? ⟨Wb, 21, none⟩ = some (.slice (some ⟨g, 0, none⟩) l.length c) ∧ (w2.cell? ⟨g, j * 5, none⟩ = some (.int .i64 1) ∧ w2.cell? ⟨g, j * 5 + 1, none⟩ = some (.int .i64 k) ∧ w2.cell? ⟨g, j * 5 + 2, none⟩ = some (.bool bu) ∧ w2.cell? ⟨g, j * 5 + 3, none⟩ = some (.bool ov) ∧ w2.cell? ⟨g, j * 5 + 4, none⟩ = some (.int .i64 hd)) ∧ w2.cell? ⟨Wb, 22 + 1 * 16 + k, none⟩ = some (.bool false) ∧ (∀ q, w2.frozen? ⟨Wb, q, none⟩ = false) ∧ Wb < w2.heap.size ∧ g < w2.heap.size ∧ w.heap.size < w2.heap.size ∧
        Hid (∀ W, Below w2.heap.size w2 W → CI Wb lv cf (mapTo (overAt 1 k) l 0) (setDn dn 1 k) bk.now Tb bk' w (W.setCell ⟨Wb, 22 + 1 * 16 + k, none⟩ (.bool true))) ∧ Hid (∀ W, CI Wb lv cf (l.map (overAt 1 k)) (setDn dn 1 k) bk.now Tb bk' w W → Fin Wb cf M R Tb N w W)))) := by
    refine (pCommit L0.T L0.WT B a S0 (by omega) b4 R L.hR hR.2).mono ?_
    rintro e w1 ⟨n, e0, bk', rfl, hn, hr, hS⟩
    obtain ⟨_, K1, _, ⟨t1, _⟩, _, _⟩ := L0.stands hS
    have ho := op_cells A B C s t hS.2.2
    refine ⟨n, rfl, ⟨by simp [World.cell?, ho], t1⟩, ?_⟩
    rcases hr with ⟨hno, rfl⟩ | ⟨hin, rfl, k, i, hh, hk, rfl⟩
    · obtain ⟨hf, hn0⟩ := no_fits L.rel S0.s hno hn
      refine (fits K1 B n b5 b6 L.rel.hd hf).mono ?_
      rintro e w2 ⟨rfl, hb2⟩
      obtain ⟨f1, f2, f3⟩ := L0.same hS hb2
      exact ⟨rfl, .inl ⟨rfl, by simpa using hn0, f1, lb0.trans f2, lf0.trans f3⟩⟩
    · have := errN_nil hn
      subst this
      refine (fits K1 B 0 b5 b6 L.rel.hd (has_fits L.rel hh)).mono ?_
      rintro e w2 ⟨rfl, hb2⟩
      obtain ⟨j, hj, e1, e2, e3, _⟩ := L.rel.found hh
      obtain ⟨dp, d16, dd⟩ := L.rel.done hM.2 hR.2 k hk
      have hp' : bk.ph = 1 := hp
      have K2 := K1.below hb2
      have C2 := CI.of L0 hS hb2 lb0 lf0
      obtain ⟨cs, hcs, _⟩ := C2.blk
      obtain ⟨g, c, hlv, d0, d1, d2, d3, d4⟩ := K2.at j hj
      have hg : g < w2.heap.size := hp_lt d0
      have ho2 : w2.heap[w.heap.size]? = some (.cells #[.int .i64 9, .int .i64 A, .int .i64 B, .int .i64 C, .string s, .string t] 45 (0, 0)) := by rw [hb2.block _ (lt_of_block ho)]; exact ho
      obtain ⟨hk', hi', hid⟩ := hh
      obtain ⟨_, hnd⟩ := L.rel.busy hk hi'
      rw [e2, hp'] at d0
      rw [e3] at d1
      rw [hp'] at dd
      have cd := K2.cd 1 k (by omega) d16
      rw [dd, hnd] at cd
      have cl := K2.cl
      have hrel := L.rel.commit hR.1 L.ok.2.2.2.1.1 hk hi'
      rw [hp'] at hrel
      refine ⟨rfl, .inr ⟨rfl, j, g, c, k, _, _, _, (bk.doneAt k bk.ts[k]).ended R, e1, by omega, by omega, hlv, by simp [World.cell?, ho2], by rw [← hlv]; exact cl, ⟨d0, d1, d2, d3, d4⟩, cd, by simp [World.frozen?, hcs], lt_of_block hcs, hg, lt_of_block ho2, fun W hbW => ?_, fun W hC => ?_⟩⟩
      · rw [mapTo_zero]
        exact (C2.below hbW).own (22 + 1 * 16 + k) (by omega) (by omega) _ (fun q t hq ht => by
          by_cases e : q = 1 ∧ t = k
          · exact .inr ⟨by rw [e.1, e.2], by simp [setDn, e]⟩
          · refine .inl ⟨fun e2 => e (by omega), ?_⟩
            simp [setDn, e]) (.inl ⟨by omega, rfl⟩)
      · have hgs := L.gs
        have hnw := L.now
        exact hC.fin hrel (by rw [ended_now]; rfl) L.ok L.hM L.hR L.WT (by rw [ended_gs]; show bk.gs ≤ N + 1; omega) (by rw [ended_now]; show bk.now ≤ N + 1; omega)
  have hsz : (w.heap.size : Nat) ≠ Wb := by obtain ⟨cs, hcs, _⟩ := L.blk; have := lt_of_block hcs; omega
  clear L L0 S S0 b3 b4 lb0 lf0 hp
  go_enter Tryz.func25, Tryz.ntmps25
  go_wp2_with (go_at_call 19; refine (hpk.out _).mono ?_; rintro e w' ⟨rfl, rfl⟩)
  go_region_held3 (fun W => W.cell? ⟨Wb, 11, none⟩ = some (.pointer (some ⟨Tb, 0, none⟩)) ∧ W.cell? ⟨w.heap.size, 2, none⟩ = some (.int .i64 B)) (first | exact ⟨c11, cB⟩ | go_keep) ((go_at_call 14; refine HP.out.mono ?_; rintro e w1 ⟨n, rfl, ⟨q2, q11⟩, HF⟩))
  go_wp2_with (go_at_call 42; refine HF.mono ?_; rintro e w2 ⟨rfl, hc⟩; rcases hc with ⟨_, hn0, hfin⟩ | ⟨rfl, j, g, c, k, bu, ov, hd, bk', hB, hj, hk16, hlv, r2, r21, ⟨r0, r1, rb, r3, r4⟩, rd, rf, hWl, hgl, hol, HCI, HFIN⟩)
  · go_ret
    exact ⟨rfl, hfin.out⟩
  · subst hB
    have HLV : Hid (lv = _) := hlv
    clear hlv
    have hj2 : (j : Int) + 1 - 1 = j := by omega
    go_region
    go_wp2_with fail
    go_quiet (fail)
    go_wp2_with fail
    go_region
    go_wp2_with fail
    go_loopw [13] (fun iv wr => ∃ i : Nat, i ≤ l.length ∧ iv = .int .i64 i ∧ CI Wb lv cf (mapTo (overAt 1 k) l i) (setDn dn 1 k) bk.now Tb bk' w wr ∧ wr.heap[w2.heap.size]? = some (.cells #[.int .i64 1, .int .i64 k, .bool bu, .bool ov, .int .i64 hd] 112 (0, 0))) (fun iv _ => l.length - (intOf iv).toNat)
    case atStart =>
      refine ⟨0, Nat.zero_le _, rfl, HCI.out _ (below_drewN ((Below.refl _ _).alloc (Nat.le_refl _) _) _), ?_⟩
      rw [Below.heap_setCell _ ⟨Wb, _, none⟩ _ w2.heap.size (by show w2.heap.size ≠ Wb; omega)]
      exact alloc_at w2 _
    case round =>
      obtain ⟨i, hi2, rfl, hC, hab⟩ := hrel
      have hml := mapTo_length (overAt 1 k) l i
      have hlvv := HLV.out
      by_cases hil : i < l.length
      · subst hlvv
        obtain ⟨g', c', e', d0, d1, d2, d3, d4⟩ := hC.K.at i (by omega)
        simp only [Value.slice.injEq, Option.some.injEq, Addr.mk.injEq, and_true] at e'
        obtain ⟨rfl, hzz, rfl⟩ := e'
        clear hzz
        have hat := mapTo_at (overAt 1 k) l i hil (by omega)
        rw [hat] at d0 d1 d3
        have cl := hC.K.cl
        have HS : Hid (CI Wb (.slice (some ⟨g, 0, none⟩) l.length c) cf ((mapTo (overAt 1 k) l i).set i l[i].gone) (setDn dn 1 k) bk.now Tb bk' w (wr.setCell ⟨g, i * 5 + 3, none⟩ (.bool true))) := by
          have hs := gc_set3 (mapTo (overAt 1 k) l i) i (by omega)
          rw [hat] at hs
          exact hC.put (i * 5 + 3) (.bool true) hs (by simp)
        have HC : Hid (CI Wb (.slice (some ⟨g, 0, none⟩) l.length c) cf (mapTo (overAt 1 k) l i) (setDn dn 1 k) bk.now Tb bk' w wr) := hC
        have HCd : Hid (∀ q, CI Wb (.slice (some ⟨g, 0, none⟩) l.length c) cf (mapTo (overAt 1 k) l i) (setDn dn 1 k) bk.now Tb bk' w (wr.drewN q)) := fun q => hC.below (below_drewN (Below.refl _ _) q)
        have HSd : Hid (∀ q, CI Wb (.slice (some ⟨g, 0, none⟩) l.length c) cf ((mapTo (overAt 1 k) l i).set i l[i].gone) (setDn dn 1 k) bk.now Tb bk' w ((wr.drewN q).setCell ⟨g, i * 5 + 3, none⟩ (.bool true))) := fun q => by
          have hs := gc_set3 (mapTo (overAt 1 k) l i) i (by omega)
          rw [hat] at hs
          exact (hC.below (below_drewN (Below.refl _ _) q)).put (i * 5 + 3) (.bool true) hs (by simp)
        obtain ⟨cur, hgb, _⟩ := hC.K.gblk
        have fg : wr.frozen? ⟨g, i * 5 + 3, none⟩ = false := by simp [World.frozen?, hgb]
        have a0 : wr.cell? ⟨w2.heap.size, 0, none⟩ = some (.int .i64 1) := by simp [World.cell?, hab]
        have a1 : wr.cell? ⟨w2.heap.size, 1, none⟩ = some (.int .i64 k) := by simp [World.cell?, hab]
        have HAB : Hid (wr.heap[w2.heap.size]? = _) := hab
        have HN : Hid ((l[i]).at 1 k = false → mapTo (overAt 1 k) l (i + 1) = mapTo (overAt 1 k) l i) := fun h => mapTo_skip _ _ _ hil (by simp [overAt, h])
        have HM : Hid ((l[i]).at 1 k = true → mapTo (overAt 1 k) l (i + 1) = (mapTo (overAt 1 k) l i).set i l[i].gone) := fun h => by rw [← mapTo_succ _ _ _ hil]; simp [overAt, h]
        have hgne : w2.heap.size ≠ g := by omega
        clear hC hat hml hab hgb d2 d4 HCI HFIN HP
        generalize l[i] = x at *
        obtain ⟨xp, xk, xb, xo, xh⟩ := x
        simp only at d0 d1 d3
        rw [at_eq] at HN HM
        have hlti : (i : Int) < (l.length : Int) := by omega
        by_cases e1 : (xp : Int) = 1
        · have y1 : ((xp : Int) == ((1 : Nat) : Int)) = true := by simpa using e1
          rw [e1] at d0
          by_cases e2 : (xk : Int) = k
          · have y2 : ((xk : Int) == (k : Int)) = true := by simpa using e2
            rw [e2] at d1
            rw [y1, y2] at HN HM
            clear e1 e2 y1 y2
            go_wp2_with fail
            go_quiet (fail)
            go_wp2
            go_roundw
            case rel =>
              refine ⟨i + 1, by omega, by go_num, by rw [HM.out (by simp)]; exact HSd.out _, ?_⟩
              rw [Below.heap_setCell _ ⟨g, _, none⟩ _ w2.heap.size hgne]
              exact HAB.out
            case measure => simp [intOf]; omega
          · have y2 : ((xk : Int) == (k : Int)) = false := by simpa using e2
            rw [y1, y2] at HN HM
            clear e1 y1 e2
            go_wp2_with fail
            go_quiet (fail)
            go_wp2
            go_roundw
            case rel => exact ⟨i + 1, by omega, by go_num, by rw [HN.out (by simp)]; exact HCd.out _, HAB.out⟩
            case measure => simp [intOf]; omega
        · have y1 : ((xp : Int) == ((1 : Nat) : Int)) = false := by simpa using e1
          have y3 : ((xp : Int) == 1) = false := by simpa using e1
          rw [y1] at HN HM
          clear e1 y1
          go_wp2_with fail
          go_quiet (fail)
          go_wp2
          go_roundw
          case rel => exact ⟨i + 1, by omega, by go_num, by rw [HN.out (by simp)]; exact HCd.out _, HAB.out⟩
          case measure => simp [intOf]; omega
      · obtain rfl : i = l.length := by omega
        rw [mapTo_all] at hC
        have cl := hC.K.cl
        rw [hlvv] at cl
        have HF2 : Hid (Fin Wb cf M R Tb N w wr) := HFIN.out _ hC
        clear hC hab hml hlvv HCI HFIN HP
        go_wp2
        go_ret
        exact ⟨rfl, HF2.out⟩
end Go.Proofs.YtibofakbhgmhiabGreatDoor

namespace Go.Proofs.YtibofakbhgmhiabGreatDoor
open Go.RowKit Go.MuLone

set_option maxHeartbeats 4000000 in
set_option maxRecDepth 100000 in
theorem callCommit2 {Wb : Nat} {w : World} {cf : Cf} {M R Tb : Nat} {bk : Bk} {l : List Gr} {dn : Nat → Nat → Bool} {lv tv : Value} {vs : List Value} {N : Nat} (L : LS Wb w cf M R Tb bk l dn lv tv vs N) (a : Nat → Addr) (S : SL Wb w a) (hN : N ≤ 1048576) (A B C : Int) (s t : ByteArray) (hA1 : -9223372036854775808 ≤ A) (hA2 : A ≤ 9223372036854775807) (hA : pk6 A = 2) (hp : bk.ph ≠ 1) :
    Calls Tryz.prog 25 #[.pointer (some ⟨Wb, 0, none⟩), .agg #[.int .i64 9, .int .i64 A, .int .i64 B, .int .i64 C, .string s, .string t]] w fun e w' => e = .returned (.bool true) ∧ Fin Wb cf M R Tb N w w' := by
  obtain ⟨hM, hR, b1, b2, b3, b4, b5, b6⟩ := L.bounds hN
  obtain ⟨L0, lb0, lf0⟩ := L.op (.cells #[.int .i64 9, .int .i64 A, .int .i64 B, .int .i64 C, .string s, .string t] 45)
  have S0 := S.low lb0
  have c11 := (World.cell?_alloc_lt w (.cells #[.int .i64 9, .int .i64 A, .int .i64 B, .int .i64 C, .string s, .string t] 45) _ (hp_lt L.t)).trans L.t
  have c12 := (World.cell?_alloc_lt w (.cells #[.int .i64 9, .int .i64 A, .int .i64 B, .int .i64 C, .string s, .string t] 45) _ (hp_lt L.m)).trans L.m
  have cB : (w.alloc (.cells #[.int .i64 9, .int .i64 A, .int .i64 B, .int .i64 C, .string s, .string t] 45)).cell? ⟨w.heap.size, 2, none⟩ = some (.int .i64 B) := by rw [World.cell?_alloc_at _ _ _ _ (by simp)]; rfl
  have hpk : Hid (∀ W, Calls Tryz.prog 19 #[.int .i64 A, .int .i64 6] W fun e w' => e = .returned (.int .i64 2) ∧ w' = W) := fun W => by
    have := pick6 A W hA1 hA2
    rw [hA] at this
    exact this
  have HP : Hid (Calls Tryz.prog 14 #[.pointer (some ⟨Tb, 0, none⟩), .int .i64 B] ((w.alloc (.cells #[.int .i64 9, .int .i64 A, .int .i64 B, .int .i64 C, .string s, .string t] 45)).drew) fun e w1 => ∃ n, e = .returned (.int .i64 n) ∧ (w1.cell? ⟨w.heap.size, 2, none⟩ = some (.int .i64 B) ∧ w1.cell? ⟨Wb, 11, none⟩ = some (.pointer (some ⟨Tb, 0, none⟩))) ∧ Calls Tryz.prog 42 #[.pointer (some ⟨Wb, 0, none⟩), .int .i64 B, .int .i64 n] w1 fun e w2 => e = .returned (.bool true) ∧ ((n = n ∧ (n == 0) = false ∧ Hid (Fin Wb cf M R Tb N w w2)) ∨
      (n = 0 ∧ ∃ (j g c k : Nat) (bu ov : Bool) (hd : Nat) (bk' : Bk), B = (j : Int) + 1 ∧ (j : Int) < (l.length : Int) ∧ (k : Int) < 16 ∧ lv = .slice (some ⟨g, 0, none⟩) l.length c ∧ w2.cell? ⟨w.heap.size, 2, none⟩ = some (.int .i64 B) ∧ w2.cell? ⟨Wb, 21, none⟩ = some (.slice (some ⟨g, 0, none⟩) l.length c) ∧ (w2.cell? ⟨g, j * 5, none⟩ = some (.int .i64 2) ∧ w2.cell? ⟨g, j * 5 + 1, none⟩ = some (.int .i64 k) ∧ w2.cell? ⟨g, j * 5 + 2, none⟩ = some (.bool bu) ∧ w2.cell? ⟨g, j * 5 + 3, none⟩ = some (.bool ov) ∧ w2.cell? ⟨g, j * 5 + 4, none⟩ = some (.int .i64 hd)) ∧ w2.cell? ⟨Wb, 22 + 2 * 16 + k, none⟩ = some (.bool false) ∧ (∀ q, w2.frozen? ⟨Wb, q, none⟩ = false) ∧ Wb < w2.heap.size ∧ g < w2.heap.size ∧ w.heap.size < w2.heap.size ∧
        Hid (∀ W, Below w2.heap.size w2 W → CI Wb lv cf (mapTo (overAt 2 k) l 0) (setDn dn 2 k) bk.now Tb bk' w (W.setCell ⟨Wb, 22 + 2 * 16 + k, none⟩ (.bool true))) ∧ Hid (∀ W, CI Wb lv cf (l.map (overAt 2 k)) (setDn dn 2 k) bk.now Tb bk' w W → Fin Wb cf M R Tb N w W)))) := by
    refine (pCommit L0.T L0.WT B a S0 (by omega) b4 R L.hR hR.2).mono ?_
    rintro e w1 ⟨n, e0, bk', rfl, hn, hr, hS⟩
    obtain ⟨_, K1, _, ⟨t1, _⟩, _, _⟩ := L0.stands hS
    have ho := op_cells A B C s t hS.2.2
    refine ⟨n, rfl, ⟨by simp [World.cell?, ho], t1⟩, ?_⟩
    rcases hr with ⟨hno, rfl⟩ | ⟨hin, rfl, k, i, hh, hk, rfl⟩
    · obtain ⟨hf, hn0⟩ := no_fits L.rel S0.s hno hn
      refine (fits K1 B n b5 b6 L.rel.hd hf).mono ?_
      rintro e w2 ⟨rfl, hb2⟩
      obtain ⟨f1, f2, f3⟩ := L0.same hS hb2
      exact ⟨rfl, .inl ⟨rfl, by simpa using hn0, f1, lb0.trans f2, lf0.trans f3⟩⟩
    · have := errN_nil hn
      subst this
      refine (fits K1 B 0 b5 b6 L.rel.hd (has_fits L.rel hh)).mono ?_
      rintro e w2 ⟨rfl, hb2⟩
      obtain ⟨j, hj, e1, e2, e3, _⟩ := L.rel.found hh
      obtain ⟨dp, d16, dd⟩ := L.rel.done hM.2 hR.2 k hk
      have hp' : bk.ph = 2 := by have := L.rel.ph; omega
      have K2 := K1.below hb2
      have C2 := CI.of L0 hS hb2 lb0 lf0
      obtain ⟨cs, hcs, _⟩ := C2.blk
      obtain ⟨g, c, hlv, d0, d1, d2, d3, d4⟩ := K2.at j hj
      have hg : g < w2.heap.size := hp_lt d0
      have ho2 : w2.heap[w.heap.size]? = some (.cells #[.int .i64 9, .int .i64 A, .int .i64 B, .int .i64 C, .string s, .string t] 45 (0, 0)) := by rw [hb2.block _ (lt_of_block ho)]; exact ho
      obtain ⟨hk', hi', hid⟩ := hh
      obtain ⟨_, hnd⟩ := L.rel.busy hk hi'
      rw [e2, hp'] at d0
      rw [e3] at d1
      rw [hp'] at dd
      have cd := K2.cd 2 k (by omega) d16
      rw [dd, hnd] at cd
      have cl := K2.cl
      have hrel := L.rel.commit hR.1 L.ok.2.2.2.1.1 hk hi'
      rw [hp'] at hrel
      refine ⟨rfl, .inr ⟨rfl, j, g, c, k, _, _, _, (bk.doneAt k bk.ts[k]).ended R, e1, by omega, by omega, hlv, by simp [World.cell?, ho2], by rw [← hlv]; exact cl, ⟨d0, d1, d2, d3, d4⟩, cd, by simp [World.frozen?, hcs], lt_of_block hcs, hg, lt_of_block ho2, fun W hbW => ?_, fun W hC => ?_⟩⟩
      · rw [mapTo_zero]
        exact (C2.below hbW).own (22 + 2 * 16 + k) (by omega) (by omega) _ (fun q t hq ht => by
          by_cases e : q = 2 ∧ t = k
          · exact .inr ⟨by rw [e.1, e.2], by simp [setDn, e]⟩
          · refine .inl ⟨fun e2 => e (by omega), ?_⟩
            simp [setDn, e]) (.inl ⟨by omega, rfl⟩)
      · have hgs := L.gs
        have hnw := L.now
        exact hC.fin hrel (by rw [ended_now]; rfl) L.ok L.hM L.hR L.WT (by rw [ended_gs]; show bk.gs ≤ N + 1; omega) (by rw [ended_now]; show bk.now ≤ N + 1; omega)
  have hsz : (w.heap.size : Nat) ≠ Wb := by obtain ⟨cs, hcs, _⟩ := L.blk; have := lt_of_block hcs; omega
  clear L L0 S S0 b3 b4 lb0 lf0 hp
  go_enter Tryz.func25, Tryz.ntmps25
  go_wp2_with (go_at_call 19; refine (hpk.out _).mono ?_; rintro e w' ⟨rfl, rfl⟩)
  go_region_held3 (fun W => W.cell? ⟨Wb, 11, none⟩ = some (.pointer (some ⟨Tb, 0, none⟩)) ∧ W.cell? ⟨w.heap.size, 2, none⟩ = some (.int .i64 B)) (first | exact ⟨c11, cB⟩ | go_keep) ((go_at_call 14; refine HP.out.mono ?_; rintro e w1 ⟨n, rfl, ⟨q2, q11⟩, HF⟩))
  go_wp2_with (go_at_call 42; refine HF.mono ?_; rintro e w2 ⟨rfl, hc⟩; rcases hc with ⟨_, hn0, hfin⟩ | ⟨rfl, j, g, c, k, bu, ov, hd, bk', hB, hj, hk16, hlv, r2, r21, ⟨r0, r1, rb, r3, r4⟩, rd, rf, hWl, hgl, hol, HCI, HFIN⟩)
  · go_ret
    exact ⟨rfl, hfin.out⟩
  · subst hB
    have HLV : Hid (lv = _) := hlv
    clear hlv
    have hj2 : (j : Int) + 1 - 1 = j := by omega
    go_region
    go_wp2_with fail
    go_quiet (fail)
    go_wp2_with fail
    go_region
    go_wp2_with fail
    go_loopw [13] (fun iv wr => ∃ i : Nat, i ≤ l.length ∧ iv = .int .i64 i ∧ CI Wb lv cf (mapTo (overAt 2 k) l i) (setDn dn 2 k) bk.now Tb bk' w wr ∧ wr.heap[w2.heap.size]? = some (.cells #[.int .i64 2, .int .i64 k, .bool bu, .bool ov, .int .i64 hd] 112 (0, 0))) (fun iv _ => l.length - (intOf iv).toNat)
    case atStart =>
      refine ⟨0, Nat.zero_le _, rfl, HCI.out _ (below_drewN ((Below.refl _ _).alloc (Nat.le_refl _) _) _), ?_⟩
      rw [Below.heap_setCell _ ⟨Wb, _, none⟩ _ w2.heap.size (by show w2.heap.size ≠ Wb; omega)]
      exact alloc_at w2 _
    case round =>
      obtain ⟨i, hi2, rfl, hC, hab⟩ := hrel
      have hml := mapTo_length (overAt 2 k) l i
      have hlvv := HLV.out
      by_cases hil : i < l.length
      · subst hlvv
        obtain ⟨g', c', e', d0, d1, d2, d3, d4⟩ := hC.K.at i (by omega)
        simp only [Value.slice.injEq, Option.some.injEq, Addr.mk.injEq, and_true] at e'
        obtain ⟨rfl, hzz, rfl⟩ := e'
        clear hzz
        have hat := mapTo_at (overAt 2 k) l i hil (by omega)
        rw [hat] at d0 d1 d3
        have cl := hC.K.cl
        have HS : Hid (CI Wb (.slice (some ⟨g, 0, none⟩) l.length c) cf ((mapTo (overAt 2 k) l i).set i l[i].gone) (setDn dn 2 k) bk.now Tb bk' w (wr.setCell ⟨g, i * 5 + 3, none⟩ (.bool true))) := by
          have hs := gc_set3 (mapTo (overAt 2 k) l i) i (by omega)
          rw [hat] at hs
          exact hC.put (i * 5 + 3) (.bool true) hs (by simp)
        have HC : Hid (CI Wb (.slice (some ⟨g, 0, none⟩) l.length c) cf (mapTo (overAt 2 k) l i) (setDn dn 2 k) bk.now Tb bk' w wr) := hC
        have HCd : Hid (∀ q, CI Wb (.slice (some ⟨g, 0, none⟩) l.length c) cf (mapTo (overAt 2 k) l i) (setDn dn 2 k) bk.now Tb bk' w (wr.drewN q)) := fun q => hC.below (below_drewN (Below.refl _ _) q)
        have HSd : Hid (∀ q, CI Wb (.slice (some ⟨g, 0, none⟩) l.length c) cf ((mapTo (overAt 2 k) l i).set i l[i].gone) (setDn dn 2 k) bk.now Tb bk' w ((wr.drewN q).setCell ⟨g, i * 5 + 3, none⟩ (.bool true))) := fun q => by
          have hs := gc_set3 (mapTo (overAt 2 k) l i) i (by omega)
          rw [hat] at hs
          exact (hC.below (below_drewN (Below.refl _ _) q)).put (i * 5 + 3) (.bool true) hs (by simp)
        obtain ⟨cur, hgb, _⟩ := hC.K.gblk
        have fg : wr.frozen? ⟨g, i * 5 + 3, none⟩ = false := by simp [World.frozen?, hgb]
        have a0 : wr.cell? ⟨w2.heap.size, 0, none⟩ = some (.int .i64 2) := by simp [World.cell?, hab]
        have a1 : wr.cell? ⟨w2.heap.size, 1, none⟩ = some (.int .i64 k) := by simp [World.cell?, hab]
        have HAB : Hid (wr.heap[w2.heap.size]? = _) := hab
        have HN : Hid ((l[i]).at 2 k = false → mapTo (overAt 2 k) l (i + 1) = mapTo (overAt 2 k) l i) := fun h => mapTo_skip _ _ _ hil (by simp [overAt, h])
        have HM : Hid ((l[i]).at 2 k = true → mapTo (overAt 2 k) l (i + 1) = (mapTo (overAt 2 k) l i).set i l[i].gone) := fun h => by rw [← mapTo_succ _ _ _ hil]; simp [overAt, h]
        have hgne : w2.heap.size ≠ g := by omega
        clear hC hat hml hab hgb d2 d4 HCI HFIN HP
        generalize l[i] = x at *
        obtain ⟨xp, xk, xb, xo, xh⟩ := x
        simp only at d0 d1 d3
        rw [at_eq] at HN HM
        have hlti : (i : Int) < (l.length : Int) := by omega
        by_cases e1 : (xp : Int) = 2
        · have y1 : ((xp : Int) == ((2 : Nat) : Int)) = true := by simpa using e1
          rw [e1] at d0
          by_cases e2 : (xk : Int) = k
          · have y2 : ((xk : Int) == (k : Int)) = true := by simpa using e2
            rw [e2] at d1
            rw [y1, y2] at HN HM
            clear e1 e2 y1 y2
            go_wp2_with fail
            go_quiet (fail)
            go_wp2
            go_roundw
            case rel =>
              refine ⟨i + 1, by omega, by go_num, by rw [HM.out (by simp)]; exact HSd.out _, ?_⟩
              rw [Below.heap_setCell _ ⟨g, _, none⟩ _ w2.heap.size hgne]
              exact HAB.out
            case measure => simp [intOf]; omega
          · have y2 : ((xk : Int) == (k : Int)) = false := by simpa using e2
            rw [y1, y2] at HN HM
            clear e1 y1 e2
            go_wp2_with fail
            go_quiet (fail)
            go_wp2
            go_roundw
            case rel => exact ⟨i + 1, by omega, by go_num, by rw [HN.out (by simp)]; exact HCd.out _, HAB.out⟩
            case measure => simp [intOf]; omega
        · have y1 : ((xp : Int) == ((2 : Nat) : Int)) = false := by simpa using e1
          have y3 : ((xp : Int) == 2) = false := by simpa using e1
          rw [y1] at HN HM
          clear e1 y1
          go_wp2_with fail
          go_quiet (fail)
          go_wp2
          go_roundw
          case rel => exact ⟨i + 1, by omega, by go_num, by rw [HN.out (by simp)]; exact HCd.out _, HAB.out⟩
          case measure => simp [intOf]; omega
      · obtain rfl : i = l.length := by omega
        rw [mapTo_all] at hC
        have cl := hC.K.cl
        rw [hlvv] at cl
        have HF2 : Hid (Fin Wb cf M R Tb N w wr) := HFIN.out _ hC
        clear hC hab hml hlvv HCI HFIN HP
        go_wp2
        go_ret
        exact ⟨rfl, HF2.out⟩
end Go.Proofs.YtibofakbhgmhiabGreatDoor

namespace Go.Proofs.YtibofakbhgmhiabGreatDoor
open Go.RowKit Go.MuLone

theorem Fin.below {Wb : Nat} {cf : Cf} {M R Tb N : Nat} {w W W' : World} (h : Fin Wb cf M R Tb N w W) (hb : Below W.heap.size W W') : Fin Wb cf M R Tb N w W' := by
  obtain ⟨⟨bk, l, dn, lv, tv, vs, L⟩, h2, h3⟩ := h
  obtain ⟨cs, hcs, _⟩ := L.blk
  exact ⟨⟨bk, l, dn, lv, tv, vs, L.below hb⟩, h2.trans (hb.mono (Nat.le_of_lt (lt_of_block hcs))), h3.trans (Fc.of_below hb)⟩
theorem sel_at (P : Gr → Bool) : ∀ (l : List Gr) (n i : Nat) (hi : i < l.length), P l[i] = true → (sel P n l)[(l.take i).countP P]? = some (n + i + 1, l[i].hd)
  | [], n, i, hi, _ => absurd hi (Nat.not_lt_zero _)
  | a :: l, n, 0, _, h => by
    simp only [List.getElem_cons_zero] at h
    simp [sel, h]
  | a :: l, n, i + 1, hi, h => by
    have ih := sel_at P l (n + 1) i (by simpa using hi) (by simpa using h)
    have e : n + 1 + i + 1 = n + (i + 1) + 1 := by omega
    rw [e] at ih
    by_cases ha : P a = true
    · simp only [sel, ha, if_true, List.take_succ_cons, List.countP_cons, List.getElem?_cons_succ, List.getElem_cons_succ]
      exact ih
    · simp only [sel, ha, List.take_succ_cons, List.countP_cons, List.getElem_cons_succ]
      simpa using ih
theorem ctg_at (lease : Int) (now : Nat) (l : List Gr) (i : Nat) (hi : i < l.length) (h : l[i].cnt lease now = true) : (ctg lease now l)[(l.take i).countP (Gr.cnt lease now)]? = some (i + 1) := by
  unfold ctg
  rw [List.getElem?_map, sel_at (Gr.cnt lease now) l 0 i hi h]
  simp
theorem stat_left (ts : List Tk) : stI ts + stR ts = ts.countP Tk.nd := by
  induction ts with
  | nil => rfl
  | cons t ts ih =>
    simp only [stI, stR, List.countP_cons] at ih ⊢
    have h : ∀ t : Tk, (if t.idle = true then 1 else 0) + (if (!t.done && !t.idle) = true then 1 else 0) = (if t.nd = true then 1 else 0) := by
      intro t
      unfold Tk.nd Tk.idle
      cases t.done <;> cases (t.live.length == 0) <;> rfl
    have := h t
    omega
theorem stat_all (ts : List Tk) : stI ts + stR ts + stD ts = ts.length := by
  rw [stat_left]
  induction ts with
  | nil => rfl
  | cons t ts ih =>
    simp only [stD, List.countP_cons, List.length_cons] at ih ⊢
    have h : (if t.nd = true then 1 else 0) + (if t.done = true then 1 else 0) = 1 := by
      unfold Tk.nd
      cases t.done <;> rfl
    omega
theorem Rel.statL {cf : Cf} {M R : Nat} {bk : Bk} {l : List Gr} {dn : Nat → Nat → Bool} (h : Rel cf M R bk l dn) : stL bk.ts = l.countP (Gr.cnt cf.lease bk.now) := by
  rw [← h.total, idsOf_length]
/-- what Status tells, held against the book -/
structure StTold (cf : Cf) (M R : Nat) (bk : Bk) (l : List Gr) (dn : Nat → Nat → Bool) : Prop where
  l : stL bk.ts = l.countP (Gr.cnt cf.lease bk.now)
  p1 : bk.ph = 1 → stI bk.ts + stR bk.ts = leftOf dn 1 M ∧ stI bk.ts + stR bk.ts + stD bk.ts = M ∧ 0 < leftOf dn 1 M
  p2 : bk.ph = 2 → stI bk.ts + stR bk.ts = leftOf dn 2 R ∧ stI bk.ts + stR bk.ts + stD bk.ts = R ∧ 0 < leftOf dn 2 R ∧ leftOf dn 1 M = 0
  p3 : bk.ph = 3 → leftOf dn 1 M = 0 ∧ leftOf dn 2 R = 0
theorem Rel.told {cf : Cf} {M R : Nat} {bk : Bk} {l : List Gr} {dn : Nat → Nat → Bool} (h : Rel cf M R bk l dn) (hM : M ≤ 16) (hR : 1 ≤ R ∧ R ≤ 16) : StTold cf M R bk l dn := by
  have h1 := h.left1 hM
  have h2 := h.left2 hR
  refine ⟨h.statL, fun hp => ?_, fun hp => ?_, fun hp => ?_⟩
  · have e := h.leftEq hM hR.2 (by omega)
    have e2 := h.len (by omega)
    rw [hp] at e e2
    rw [stat_all, stat_left, ← e]
    refine ⟨rfl, e2, ?_⟩
    rcases h1 with ⟨_, h1⟩ | ⟨h1, _⟩
    · exact h1
    · exact absurd hp h1
  · have e := h.leftEq hM hR.2 (by omega)
    have e2 := h.len (by omega)
    rw [hp] at e e2
    rw [stat_all, stat_left, ← e]
    refine ⟨rfl, e2, ?_, ?_⟩
    · rcases h2 with ⟨_, h2⟩ | ⟨h2, _⟩
      · exact h2
      · omega
    · rcases h1 with ⟨h1, _⟩ | ⟨_, h1⟩
      · omega
      · exact h1
  · refine ⟨?_, ?_⟩
    · rcases h1 with ⟨h1, _⟩ | ⟨_, h1⟩
      · omega
      · exact h1
    · rcases h2 with ⟨h2, _⟩ | ⟨_, h2⟩
      · exact absurd hp h2
      · exact h2
end Go.Proofs.YtibofakbhgmhiabGreatDoor

namespace Go.Proofs.YtibofakbhgmhiabGreatDoor
open Go.RowKit Go.MuLone

set_option maxHeartbeats 4000000 in
set_option maxRecDepth 100000 in
theorem wStatus1 {Wb : Nat} {w : World} {cf : Cf} {M R Tb : Nat} {bk : Bk} {l : List Gr} {dn : Nat → Nat → Bool} {lv tv : Value} {vs : List Value} {N : Nat} (L : LS Wb w cf M R Tb bk l dn lv tv vs N) (hN : N ≤ 1048576) (hp : bk.ph = 1) :
    Calls Tryz.prog 46 #[.pointer (some ⟨Wb, 0, none⟩)] w fun e w' => e = .returned (.bool true) ∧ Fin Wb cf M R Tb N w w' := by
  obtain ⟨hM, hR, b1, b2, b3, b4, b5, b6⟩ := L.bounds hN
  have c11 := L.t
  obtain ⟨la, lc, hlv⟩ := L.K.slice
  have HT : Hid (Calls Tryz.prog 85 #[.pointer (some ⟨Tb, 0, none⟩)] w fun e w1 => ∃ (sI sR sD sL lb : Nat), e = .returned (.agg #[.int .i64 1, .int .i64 sI, .int .i64 sR, .int .i64 sD, .int .i64 sL, .int .i64 ((sL : Int) - (sR : Int)), .int .i64 bk.now, .bool bk.fl]) ∧ (sI ≤ 1048576 ∧ sR ≤ 1048576 ∧ sD ≤ 1048576 ∧ sL ≤ 1048576 ∧ lb ≤ 1048576) ∧ w1.cell? ⟨Wb, 11, none⟩ = some (.pointer (some ⟨Tb, 0, none⟩)) ∧ Wb < w1.heap.size ∧ (0 : Int) < (sI : Int) + (sR : Int) ∧ Calls Tryz.prog 86 #[.pointer (some ⟨Tb, 0, none⟩)] (w1.alloc (.cells #[.int .i64 1, .int .i64 sI, .int .i64 sR, .int .i64 sD, .int .i64 sL, .int .i64 ((sL : Int) - (sR : Int)), .int .i64 bk.now, .bool bk.fl] 182)) fun e w2 => ∃ (ao : Option Addr) (vc : Nat), e = .returned (.slice ao sL vc) ∧ (w2.cell? ⟨Wb, 21, none⟩ = some (.slice la l.length lc) ∧ w2.cell? ⟨Wb, 70, none⟩ = some (.int .i64 bk.now) ∧ w2.heap[w1.heap.size]? = some (.cells #[.int .i64 1, .int .i64 sI, .int .i64 sR, .int .i64 sD, .int .i64 sL, .int .i64 ((sL : Int) - (sR : Int)), .int .i64 bk.now, .bool bk.fl] 182 (0, 0)) ∧ Wb < w2.heap.size) ∧ Hid (l.countP (Gr.cnt cf.lease bk.now) = sL) ∧
      Hid (∀ i (hi : i < l.length), l[i].cnt cf.lease bk.now = true → ∃ g, ao = some ⟨g, 0, none⟩ ∧ w2.cell? ⟨g, (l.take i).countP (Gr.cnt cf.lease bk.now), none⟩ = some (.int .i64 ((i : Int) + 1)) ∧ (l.take i).countP (Gr.cnt cf.lease bk.now) < sL) ∧
      Hid (∀ i (hi : i < l.length), ∀ W, Below w2.heap.size w2 W → Calls Tryz.prog 45 #[.pointer (some ⟨Wb, 13, none⟩), .int .i64 i] W fun e w' => e = .returned (.bool (l[i].cnt cf.lease bk.now)) ∧ Below w2.heap.size w2 w') ∧
      Hid (∀ W, Below w2.heap.size w2 W → Calls Tryz.prog 78 #[.pointer (some ⟨Wb, 13, none⟩), .int .i64 1] W fun e w3 => e = .returned (.int .i64 ((sI : Int) + (sR : Int))) ∧ Calls Tryz.prog 78 #[.pointer (some ⟨Wb, 13, none⟩), .int .i64 2] w3 fun e w4 => e = .returned (.int .i64 (lb : Nat)) ∧ (w4.heap[w1.heap.size]? = some (.cells #[.int .i64 1, .int .i64 sI, .int .i64 sR, .int .i64 sD, .int .i64 sL, .int .i64 ((sL : Int) - (sR : Int)), .int .i64 bk.now, .bool bk.fl] 182 (0, 0)) ∧ w4.cell? ⟨Wb, 13, none⟩ = some (.int .i64 ((sI : Int) + (sR : Int) + (sD : Int))) ∧ w4.cell? ⟨Wb, 14, none⟩ = some (.int .i64 R)) ∧ Hid (Fin Wb cf M R Tb N w w4))) := by
    refine (tStatus L.T L.WT (by omega) b4).mono ?_
    rintro e w1 ⟨rfl, hS⟩
    obtain ⟨⟨cs, hcs, hcz⟩, K1, ⟨tv1, vs1, T1⟩, ⟨t1, m1⟩, f1, lo1⟩ := L.stands hS
    have L1 : LS Wb w1 cf M R Tb bk l dn lv tv1 vs1 N := ⟨⟨cs, hcs, hcz⟩, K1, T1, L.rel, L.ok, L.hM, L.hR, t1, m1, L.gs, L.now, L.WT⟩
    have tld := L.rel.told hM.2 hR
    have hba : Below w1.heap.size w1 (w1.alloc (.cells #[.int .i64 1, .int .i64 (stI bk.ts), .int .i64 (stR bk.ts), .int .i64 (stD bk.ts), .int .i64 (stL bk.ts), .int .i64 ((stL bk.ts : Int) - (stR bk.ts : Int)), .int .i64 bk.now, .bool bk.fl] 182)) := (Below.refl _ _).alloc (Nat.le_refl _) _
    have LA := L1.below hba
    have q1 : stI bk.ts ≤ bk.ts.length := by have := stat_all bk.ts; omega
    have q2 : stR bk.ts ≤ bk.ts.length := by have := stat_all bk.ts; omega
    have q3 : stD bk.ts ≤ bk.ts.length := by have := stat_all bk.ts; omega
    have q4 : l.countP (Gr.cnt cf.lease bk.now) ≤ l.length := List.countP_le_length
    have q5 := leftOf_le dn 2 R
    have q6 := tld.l
    refine ⟨stI bk.ts, stR bk.ts, stD bk.ts, stL bk.ts, leftOf dn 2 R, by rw [statV, hp]; rfl, ⟨by omega, by omega, by omega, by omega, by omega⟩, t1, lt_of_block hcs, by have := tld.p1 hp; omega, (tLive LA.T LA.WT (by omega) b4).mono ?_⟩
    rintro e w2 ⟨⟨v, s, rfl, hs1, hs2, hown⟩, hS2⟩
    obtain ⟨ao, vc, rfl⟩ := hown_slice hown
    have hsc := L.rel.sorted_ids hs1 hs2
    have hsl : s.length = stL bk.ts := by rw [hsc, ctg_length, ← tld.l]
    obtain ⟨⟨cs2, hcs2, hcz2⟩, K2, ⟨tv2, vs2, T2⟩, ⟨t2, m2⟩, f2, lo2⟩ := LA.stands hS2
    have hst : w2.heap[w1.heap.size]? = _ := hS2.2.2.block _ _ _ _ (alloc_at w1 _) (by decide) (by decide) (by decide)
    have hcl := K2.cl
    rw [hlv] at hcl
    refine ⟨ao, vc, by rw [hsl], ⟨hcl, K2.cn, hst, lt_of_block hcs2⟩, tld.l.symm, fun i hi hc => ?_, fun i hi W hbW => ?_, fun W hbW => ?_⟩
    · have hat := ctg_at cf.lease bk.now l i hi hc
      rw [← hsc] at hat
      obtain ⟨hlt, hge⟩ := List.getElem?_eq_some_iff.1 hat
      rcases hown.2 with ⟨_, hn⟩ | ⟨g, cap, cur, hv, _⟩
      · omega
      · simp only [Value.slice.injEq] at hv
        obtain ⟨rfl, _, rfl⟩ := hv
        refine ⟨g, rfl, ?_, by omega⟩
        rw [hown.cellAt _ (by omega)]
        simp only [icn, List.getElem?_map, hat]
        simp
    · refine (counts (K2.below hbW) i hi b6 (L.rel.hd _ (List.getElem_mem hi))).mono ?_
      rintro e w' ⟨rfl, hb⟩
      exact ⟨rfl, hbW.trans (hb.mono hbW.size)⟩
    · refine (left (K2.below hbW) M R L.hM L.hR hM.2 hR.2 1 (.inl rfl)).mono ?_
      rintro e w3 ⟨rfl, hb3⟩
      have hb3' := hbW.trans (hb3.mono hbW.size)
      refine ⟨by rw [show nOf M R 1 = M from rfl]; have := (tld.p1 hp).1; rw [← this]; simp, (left (K2.below hb3') M R L.hM L.hR hM.2 hR.2 2 (.inr rfl)).mono ?_⟩
      rintro e w4 ⟨rfl, hb4⟩
      have hb4' := hb3'.trans (hb4.mono hb3'.size)
      have K4 := K2.below hb4'
      have k0 := K4.c0
      have k1 := K4.c1
      rw [L.hM] at k0
      rw [L.hR] at k1
      have LF := (⟨⟨cs2, hcs2, hcz2⟩, K2, T2, L.rel, L.ok, L.hM, L.hR, t2, m2, L.gs, L.now, L.WT⟩ : LS Wb w2 cf M R Tb bk l dn lv tv2 vs2 N).below hb4'
      refine ⟨rfl, ⟨by rw [hb4'.block _ (lt_of_block hst)]; exact hst, by rw [k0]; have := (tld.p1 hp).2.1; congr 2; omega, k1⟩, ⟨_, _, _, _, _, _, LF.up⟩, ?_, ?_⟩
      · exact ((lo1.trans (hba.mono (Nat.le_of_lt (lt_of_block hcs)))).trans lo2).trans (hb4'.mono (Nat.le_of_lt (lt_of_block hcs2)))
      · exact ((f1.trans (Fc.of_below hba)).trans f2).trans (Fc.of_below hb4')
  clear L b3 b4 hp hlv
  go_enter Tryz.func46, Tryz.ntmps46
  go_wp2_with (first | (go_at_call 85; refine HT.out.mono ?_; rintro e w1 ⟨sI, sR, sD, sL, lb, rfl, ⟨n1, n2, n3, n4, n5⟩, t1, hW1, hpos, HLV⟩) | (go_at_call 86; refine HLV.mono ?_; rintro e w2 ⟨ao, vc, rfl, ⟨c21, c70, hst, hW2⟩, HCN, HRW, HCT, HLF⟩))
  go_loopw [5, 6] (fun kv iv wr => ∃ i : Nat, i ≤ l.length ∧ kv = .int .i64 ((l.take i).countP (Gr.cnt cf.lease bk.now)) ∧ iv = .int .i64 i ∧ Below w2.heap.size w2 wr) (fun _ iv _ => l.length - (intOf iv).toNat)
  case atStart => exact ⟨0, Nat.zero_le _, rfl, rfl, Below.refl _ _⟩
  case round =>
    obtain ⟨i, hi, rfl, rfl, hb⟩ := hrel
    have d21 := (hb.cell (p := ⟨Wb, 21, none⟩) hW2).trans c21
    by_cases hil : i < l.length
    · have HK : Hid (Calls Tryz.prog 45 #[.pointer (some ⟨Wb, 13, none⟩), .int .i64 i] wr fun e w' => e = .returned (.bool (l[i].cnt cf.lease bk.now)) ∧ Below w2.heap.size w2 w') := HCT.out i hil wr hb
      have HR := HRW.out i hil
      have HTK : Hid ((l.take (i + 1)).countP (Gr.cnt cf.lease bk.now) = (l.take i).countP (Gr.cnt cf.lease bk.now) + (if l[i].cnt cf.lease bk.now = true then 1 else 0)) := countP_take _ l i hil
      have hk1 := List.countP_le_length (p := Gr.cnt cf.lease bk.now) (l := l.take i)
      have hk2 : (l.take i).length ≤ 1048576 := by simp; omega
      have HR' : Hid (_ → _) := HR
      clear HR HRW HCT HLF HT HLV HCN
      generalize (l.take i).countP (Gr.cnt cf.lease bk.now) = kk at *
      generalize l[i].cnt cf.lease bk.now = cn at *
      generalize (l.take i).length = tl at *
      cases cn with
      | true =>
        obtain ⟨g, hao, hcell, hlt⟩ := HR'.out rfl
        subst hao
        have hID : (((i : Int) + 1) != ((i : Int) + 1)) = false := by simp
        have hge : decide ((sL : Int) ≤ (kk : Int)) = false := by simp; omega
        have hlt2 : (kk : Int) < (sL : Int) := by omega
        have HC2 : Hid (∀ W, Below w2.heap.size w2 W → W.cell? ⟨g, kk, none⟩ = some (.int .i64 ((i : Int) + 1))) := fun W hbW => (hbW.cell (p := ⟨g, kk, none⟩) (hp_lt hcell)).trans hcell
        clear hcell HR'
        go_wp2_with (go_at_call 45; refine HK.out.mono ?_; rintro e w3 ⟨rfl, hb3⟩; have hcl3 := HC2.out w3 hb3)
        go_roundw
        case rel => exact ⟨i + 1, by omega, by rw [HTK.out]; go_num, by go_num, hb3⟩
        case measure => simp [intOf]; omega
      | false =>
        clear HR'
        go_wp2_with (go_at_call 45; refine HK.out.mono ?_; rintro e w3 ⟨rfl, hb3⟩)
        go_roundw
        case rel => exact ⟨i + 1, by omega, by rw [HTK.out]; go_num, by go_num, hb3⟩
        case measure => simp [intOf]; omega
    · obtain rfl : i = l.length := by omega
      rw [List.take_length, HCN.out]
      have d70 := (hb.cell (p := ⟨Wb, 70, none⟩) hW2).trans c70
      have hstr : wr.heap[w1.heap.size]? = some (.cells #[.int .i64 1, .int .i64 sI, .int .i64 sR, .int .i64 sD, .int .i64 sL, .int .i64 ((sL : Int) - (sR : Int)), .int .i64 bk.now, .bool bk.fl] 182 (0, 0)) := by rw [hb.block _ (lt_of_block hst)]; exact hst
      have s6 : wr.cell? ⟨w1.heap.size, 6, none⟩ = some (.int .i64 bk.now) := by simp [World.cell?, hstr]
      have HLF2 : Hid (∀ q, Calls Tryz.prog 78 #[.pointer (some ⟨Wb, 13, none⟩), .int .i64 1] (wr.drewN q) _) := fun q => HLF.out (wr.drewN q) (below_drewN hb q)
      have hI1 : ((sL : Int) != (sL : Int)) = false := by simp
      have hI2 : ((bk.now : Int) != (bk.now : Int)) = false := by simp
      clear HRW HCT HLF HT HLV HCN hst hstr c21 c70 t1
      go_wp2_with fail
      go_quiet (fail)
      go_wp2_with (go_at_call 78; first | (refine HB.mono ?_; rintro e w4 ⟨rfl, ⟨z, z13, z14⟩, hfin⟩; have y0 : w4.cell? ⟨w1.heap.size, 0, none⟩ = some (.int .i64 1) := (by simp [World.cell?, z]); have y1 : w4.cell? ⟨w1.heap.size, 1, none⟩ = some (.int .i64 sI) := (by simp [World.cell?, z]); have y2 : w4.cell? ⟨w1.heap.size, 2, none⟩ = some (.int .i64 sR) := (by simp [World.cell?, z]); have y3 : w4.cell? ⟨w1.heap.size, 3, none⟩ = some (.int .i64 sD) := (by simp [World.cell?, z]); have y4 : w4.cell? ⟨w1.heap.size, 4, none⟩ = some (.int .i64 sL) := (by simp [World.cell?, z]); have y5 : w4.cell? ⟨w1.heap.size, 5, none⟩ = some (.int .i64 ((sL : Int) - (sR : Int))) := (by simp [World.cell?, z]); clear z) | (refine (HLF2.out _).mono ?_; rintro e w3 ⟨rfl, HB⟩))
      have k1 : decide ((0 : Int) < (sI : Int) + (sR : Int)) = true := by simp; omega
      have k2 : (((sI : Int) + (sR : Int)) == ((sI : Int) + (sR : Int))) = true := by simp
      have k3 : (((sI : Int) + (sR : Int) + (sD : Int)) == ((sI : Int) + (sR : Int) + (sD : Int))) = true := by simp
      have k4 : ((sL : Int) == (sL : Int)) = true := by simp
      have k5 : (((sL : Int) - (sR : Int)) == ((sL : Int) - (sR : Int))) = true := by simp
      go_quiet (fail)
      go_wp2
      go_ret
      exact ⟨rfl, hfin.out.below (below_drewN (Below.refl _ _) _)⟩
end Go.Proofs.YtibofakbhgmhiabGreatDoor

namespace Go.Proofs.YtibofakbhgmhiabGreatDoor
open Go.RowKit Go.MuLone

set_option maxHeartbeats 4000000 in
set_option maxRecDepth 100000 in
theorem wStatus2 {Wb : Nat} {w : World} {cf : Cf} {M R Tb : Nat} {bk : Bk} {l : List Gr} {dn : Nat → Nat → Bool} {lv tv : Value} {vs : List Value} {N : Nat} (L : LS Wb w cf M R Tb bk l dn lv tv vs N) (hN : N ≤ 1048576) (hp : bk.ph = 2) :
    Calls Tryz.prog 46 #[.pointer (some ⟨Wb, 0, none⟩)] w fun e w' => e = .returned (.bool true) ∧ Fin Wb cf M R Tb N w w' := by
  obtain ⟨hM, hR, b1, b2, b3, b4, b5, b6⟩ := L.bounds hN
  have c11 := L.t
  obtain ⟨la, lc, hlv⟩ := L.K.slice
  have HT : Hid (Calls Tryz.prog 85 #[.pointer (some ⟨Tb, 0, none⟩)] w fun e w1 => ∃ (sI sR sD sL lb : Nat), e = .returned (.agg #[.int .i64 2, .int .i64 sI, .int .i64 sR, .int .i64 sD, .int .i64 sL, .int .i64 ((sL : Int) - (sR : Int)), .int .i64 bk.now, .bool bk.fl]) ∧ (sI ≤ 1048576 ∧ sR ≤ 1048576 ∧ sD ≤ 1048576 ∧ sL ≤ 1048576 ∧ lb ≤ 1048576) ∧ w1.cell? ⟨Wb, 11, none⟩ = some (.pointer (some ⟨Tb, 0, none⟩)) ∧ Wb < w1.heap.size ∧ (0 : Int) < (sI : Int) + (sR : Int) ∧ Calls Tryz.prog 86 #[.pointer (some ⟨Tb, 0, none⟩)] (w1.alloc (.cells #[.int .i64 2, .int .i64 sI, .int .i64 sR, .int .i64 sD, .int .i64 sL, .int .i64 ((sL : Int) - (sR : Int)), .int .i64 bk.now, .bool bk.fl] 182)) fun e w2 => ∃ (ao : Option Addr) (vc : Nat), e = .returned (.slice ao sL vc) ∧ (w2.cell? ⟨Wb, 21, none⟩ = some (.slice la l.length lc) ∧ w2.cell? ⟨Wb, 70, none⟩ = some (.int .i64 bk.now) ∧ w2.heap[w1.heap.size]? = some (.cells #[.int .i64 2, .int .i64 sI, .int .i64 sR, .int .i64 sD, .int .i64 sL, .int .i64 ((sL : Int) - (sR : Int)), .int .i64 bk.now, .bool bk.fl] 182 (0, 0)) ∧ Wb < w2.heap.size) ∧ Hid (l.countP (Gr.cnt cf.lease bk.now) = sL) ∧
      Hid (∀ i (hi : i < l.length), l[i].cnt cf.lease bk.now = true → ∃ g, ao = some ⟨g, 0, none⟩ ∧ w2.cell? ⟨g, (l.take i).countP (Gr.cnt cf.lease bk.now), none⟩ = some (.int .i64 ((i : Int) + 1)) ∧ (l.take i).countP (Gr.cnt cf.lease bk.now) < sL) ∧
      Hid (∀ i (hi : i < l.length), ∀ W, Below w2.heap.size w2 W → Calls Tryz.prog 45 #[.pointer (some ⟨Wb, 13, none⟩), .int .i64 i] W fun e w' => e = .returned (.bool (l[i].cnt cf.lease bk.now)) ∧ Below w2.heap.size w2 w') ∧
      Hid (∀ W, Below w2.heap.size w2 W → Calls Tryz.prog 78 #[.pointer (some ⟨Wb, 13, none⟩), .int .i64 1] W fun e w3 => e = .returned (.int .i64 0) ∧ Calls Tryz.prog 78 #[.pointer (some ⟨Wb, 13, none⟩), .int .i64 2] w3 fun e w4 => e = .returned (.int .i64 ((sI : Int) + (sR : Int))) ∧ (w4.heap[w1.heap.size]? = some (.cells #[.int .i64 2, .int .i64 sI, .int .i64 sR, .int .i64 sD, .int .i64 sL, .int .i64 ((sL : Int) - (sR : Int)), .int .i64 bk.now, .bool bk.fl] 182 (0, 0)) ∧ w4.cell? ⟨Wb, 13, none⟩ = some (.int .i64 M) ∧ w4.cell? ⟨Wb, 14, none⟩ = some (.int .i64 ((sI : Int) + (sR : Int) + (sD : Int)))) ∧ Hid (Fin Wb cf M R Tb N w w4))) := by
    refine (tStatus L.T L.WT (by omega) b4).mono ?_
    rintro e w1 ⟨rfl, hS⟩
    obtain ⟨⟨cs, hcs, hcz⟩, K1, ⟨tv1, vs1, T1⟩, ⟨t1, m1⟩, f1, lo1⟩ := L.stands hS
    have L1 : LS Wb w1 cf M R Tb bk l dn lv tv1 vs1 N := ⟨⟨cs, hcs, hcz⟩, K1, T1, L.rel, L.ok, L.hM, L.hR, t1, m1, L.gs, L.now, L.WT⟩
    have tld := L.rel.told hM.2 hR
    have hba : Below w1.heap.size w1 (w1.alloc (.cells #[.int .i64 2, .int .i64 (stI bk.ts), .int .i64 (stR bk.ts), .int .i64 (stD bk.ts), .int .i64 (stL bk.ts), .int .i64 ((stL bk.ts : Int) - (stR bk.ts : Int)), .int .i64 bk.now, .bool bk.fl] 182)) := (Below.refl _ _).alloc (Nat.le_refl _) _
    have LA := L1.below hba
    have q1 : stI bk.ts ≤ bk.ts.length := by have := stat_all bk.ts; omega
    have q2 : stR bk.ts ≤ bk.ts.length := by have := stat_all bk.ts; omega
    have q3 : stD bk.ts ≤ bk.ts.length := by have := stat_all bk.ts; omega
    have q4 : l.countP (Gr.cnt cf.lease bk.now) ≤ l.length := List.countP_le_length
    have q5 := leftOf_le dn 2 R
    have q6 := tld.l
    refine ⟨stI bk.ts, stR bk.ts, stD bk.ts, stL bk.ts, leftOf dn 2 R, by rw [statV, hp]; rfl, ⟨by omega, by omega, by omega, by omega, by omega⟩, t1, lt_of_block hcs, by have := tld.p2 hp; omega, (tLive LA.T LA.WT (by omega) b4).mono ?_⟩
    rintro e w2 ⟨⟨v, s, rfl, hs1, hs2, hown⟩, hS2⟩
    obtain ⟨ao, vc, rfl⟩ := hown_slice hown
    have hsc := L.rel.sorted_ids hs1 hs2
    have hsl : s.length = stL bk.ts := by rw [hsc, ctg_length, ← tld.l]
    obtain ⟨⟨cs2, hcs2, hcz2⟩, K2, ⟨tv2, vs2, T2⟩, ⟨t2, m2⟩, f2, lo2⟩ := LA.stands hS2
    have hst : w2.heap[w1.heap.size]? = _ := hS2.2.2.block _ _ _ _ (alloc_at w1 _) (by decide) (by decide) (by decide)
    have hcl := K2.cl
    rw [hlv] at hcl
    refine ⟨ao, vc, by rw [hsl], ⟨hcl, K2.cn, hst, lt_of_block hcs2⟩, tld.l.symm, fun i hi hc => ?_, fun i hi W hbW => ?_, fun W hbW => ?_⟩
    · have hat := ctg_at cf.lease bk.now l i hi hc
      rw [← hsc] at hat
      obtain ⟨hlt, hge⟩ := List.getElem?_eq_some_iff.1 hat
      rcases hown.2 with ⟨_, hn⟩ | ⟨g, cap, cur, hv, _⟩
      · omega
      · simp only [Value.slice.injEq] at hv
        obtain ⟨rfl, _, rfl⟩ := hv
        refine ⟨g, rfl, ?_, by omega⟩
        rw [hown.cellAt _ (by omega)]
        simp only [icn, List.getElem?_map, hat]
        simp
    · refine (counts (K2.below hbW) i hi b6 (L.rel.hd _ (List.getElem_mem hi))).mono ?_
      rintro e w' ⟨rfl, hb⟩
      exact ⟨rfl, hbW.trans (hb.mono hbW.size)⟩
    · refine (left (K2.below hbW) M R L.hM L.hR hM.2 hR.2 1 (.inl rfl)).mono ?_
      rintro e w3 ⟨rfl, hb3⟩
      have hb3' := hbW.trans (hb3.mono hbW.size)
      refine ⟨by rw [show nOf M R 1 = M from rfl, (tld.p2 hp).2.2.2]; rfl, (left (K2.below hb3') M R L.hM L.hR hM.2 hR.2 2 (.inr rfl)).mono ?_⟩
      rintro e w4 ⟨rfl, hb4⟩
      have hb4' := hb3'.trans (hb4.mono hb3'.size)
      have K4 := K2.below hb4'
      have k0 := K4.c0
      have k1 := K4.c1
      rw [L.hM] at k0
      rw [L.hR] at k1
      have LF := (⟨⟨cs2, hcs2, hcz2⟩, K2, T2, L.rel, L.ok, L.hM, L.hR, t2, m2, L.gs, L.now, L.WT⟩ : LS Wb w2 cf M R Tb bk l dn lv tv2 vs2 N).below hb4'
      refine ⟨by rw [show nOf M R 2 = R from rfl]; have := (tld.p2 hp).1; rw [← this]; simp, ⟨by rw [hb4'.block _ (lt_of_block hst)]; exact hst, k0, by rw [k1]; have := (tld.p2 hp).2.1; congr 2; omega⟩, ⟨_, _, _, _, _, _, LF.up⟩, ?_, ?_⟩
      · exact ((lo1.trans (hba.mono (Nat.le_of_lt (lt_of_block hcs)))).trans lo2).trans (hb4'.mono (Nat.le_of_lt (lt_of_block hcs2)))
      · exact ((f1.trans (Fc.of_below hba)).trans f2).trans (Fc.of_below hb4')
  clear L b3 b4 hp hlv
  go_enter Tryz.func46, Tryz.ntmps46
  go_wp2_with (first | (go_at_call 85; refine HT.out.mono ?_; rintro e w1 ⟨sI, sR, sD, sL, lb, rfl, ⟨n1, n2, n3, n4, n5⟩, t1, hW1, hpos, HLV⟩) | (go_at_call 86; refine HLV.mono ?_; rintro e w2 ⟨ao, vc, rfl, ⟨c21, c70, hst, hW2⟩, HCN, HRW, HCT, HLF⟩))
  go_loopw [5, 6] (fun kv iv wr => ∃ i : Nat, i ≤ l.length ∧ kv = .int .i64 ((l.take i).countP (Gr.cnt cf.lease bk.now)) ∧ iv = .int .i64 i ∧ Below w2.heap.size w2 wr) (fun _ iv _ => l.length - (intOf iv).toNat)
  case atStart => exact ⟨0, Nat.zero_le _, rfl, rfl, Below.refl _ _⟩
  case round =>
    obtain ⟨i, hi, rfl, rfl, hb⟩ := hrel
    have d21 := (hb.cell (p := ⟨Wb, 21, none⟩) hW2).trans c21
    by_cases hil : i < l.length
    · have HK : Hid (Calls Tryz.prog 45 #[.pointer (some ⟨Wb, 13, none⟩), .int .i64 i] wr fun e w' => e = .returned (.bool (l[i].cnt cf.lease bk.now)) ∧ Below w2.heap.size w2 w') := HCT.out i hil wr hb
      have HR := HRW.out i hil
      have HTK : Hid ((l.take (i + 1)).countP (Gr.cnt cf.lease bk.now) = (l.take i).countP (Gr.cnt cf.lease bk.now) + (if l[i].cnt cf.lease bk.now = true then 1 else 0)) := countP_take _ l i hil
      have hk1 := List.countP_le_length (p := Gr.cnt cf.lease bk.now) (l := l.take i)
      have hk2 : (l.take i).length ≤ 1048576 := by simp; omega
      have HR' : Hid (_ → _) := HR
      clear HR HRW HCT HLF HT HLV HCN
      generalize (l.take i).countP (Gr.cnt cf.lease bk.now) = kk at *
      generalize l[i].cnt cf.lease bk.now = cn at *
      generalize (l.take i).length = tl at *
      cases cn with
      | true =>
        obtain ⟨g, hao, hcell, hlt⟩ := HR'.out rfl
        subst hao
        have hID : (((i : Int) + 1) != ((i : Int) + 1)) = false := by simp
        have hge : decide ((sL : Int) ≤ (kk : Int)) = false := by simp; omega
        have hlt2 : (kk : Int) < (sL : Int) := by omega
        have HC2 : Hid (∀ W, Below w2.heap.size w2 W → W.cell? ⟨g, kk, none⟩ = some (.int .i64 ((i : Int) + 1))) := fun W hbW => (hbW.cell (p := ⟨g, kk, none⟩) (hp_lt hcell)).trans hcell
        clear hcell HR'
        go_wp2_with (go_at_call 45; refine HK.out.mono ?_; rintro e w3 ⟨rfl, hb3⟩; have hcl3 := HC2.out w3 hb3)
        go_roundw
        case rel => exact ⟨i + 1, by omega, by rw [HTK.out]; go_num, by go_num, hb3⟩
        case measure => simp [intOf]; omega
      | false =>
        clear HR'
        go_wp2_with (go_at_call 45; refine HK.out.mono ?_; rintro e w3 ⟨rfl, hb3⟩)
        go_roundw
        case rel => exact ⟨i + 1, by omega, by rw [HTK.out]; go_num, by go_num, hb3⟩
        case measure => simp [intOf]; omega
    · obtain rfl : i = l.length := by omega
      rw [List.take_length, HCN.out]
      have d70 := (hb.cell (p := ⟨Wb, 70, none⟩) hW2).trans c70
      have hstr : wr.heap[w1.heap.size]? = some (.cells #[.int .i64 2, .int .i64 sI, .int .i64 sR, .int .i64 sD, .int .i64 sL, .int .i64 ((sL : Int) - (sR : Int)), .int .i64 bk.now, .bool bk.fl] 182 (0, 0)) := by rw [hb.block _ (lt_of_block hst)]; exact hst
      have s6 : wr.cell? ⟨w1.heap.size, 6, none⟩ = some (.int .i64 bk.now) := by simp [World.cell?, hstr]
      have HLF2 : Hid (∀ q, Calls Tryz.prog 78 #[.pointer (some ⟨Wb, 13, none⟩), .int .i64 1] (wr.drewN q) _) := fun q => HLF.out (wr.drewN q) (below_drewN hb q)
      have hI1 : ((sL : Int) != (sL : Int)) = false := by simp
      have hI2 : ((bk.now : Int) != (bk.now : Int)) = false := by simp
      clear HRW HCT HLF HT HLV HCN hst hstr c21 c70 t1
      go_wp2_with fail
      go_quiet (fail)
      go_wp2_with (go_at_call 78; first | (refine HB.mono ?_; rintro e w4 ⟨rfl, ⟨z, z13, z14⟩, hfin⟩; have y0 : w4.cell? ⟨w1.heap.size, 0, none⟩ = some (.int .i64 2) := (by simp [World.cell?, z]); have y1 : w4.cell? ⟨w1.heap.size, 1, none⟩ = some (.int .i64 sI) := (by simp [World.cell?, z]); have y2 : w4.cell? ⟨w1.heap.size, 2, none⟩ = some (.int .i64 sR) := (by simp [World.cell?, z]); have y3 : w4.cell? ⟨w1.heap.size, 3, none⟩ = some (.int .i64 sD) := (by simp [World.cell?, z]); have y4 : w4.cell? ⟨w1.heap.size, 4, none⟩ = some (.int .i64 sL) := (by simp [World.cell?, z]); have y5 : w4.cell? ⟨w1.heap.size, 5, none⟩ = some (.int .i64 ((sL : Int) - (sR : Int))) := (by simp [World.cell?, z]); clear z) | (refine (HLF2.out _).mono ?_; rintro e w3 ⟨rfl, HB⟩))
      have k1 : decide ((0 : Int) < (sI : Int) + (sR : Int)) = true := by simp; omega
      have k2 : (((sI : Int) + (sR : Int)) == ((sI : Int) + (sR : Int))) = true := by simp
      have k3 : (((sI : Int) + (sR : Int) + (sD : Int)) == ((sI : Int) + (sR : Int) + (sD : Int))) = true := by simp
      have k4 : ((sL : Int) == (sL : Int)) = true := by simp
      have k5 : (((sL : Int) - (sR : Int)) == ((sL : Int) - (sR : Int))) = true := by simp
      go_quiet (fail)
      go_wp2
      go_ret
      exact ⟨rfl, hfin.out.below (below_drewN (Below.refl _ _) _)⟩
end Go.Proofs.YtibofakbhgmhiabGreatDoor

namespace Go.Proofs.YtibofakbhgmhiabGreatDoor
open Go.RowKit Go.MuLone

set_option maxHeartbeats 4000000 in
set_option maxRecDepth 100000 in
theorem wStatus3 {Wb : Nat} {w : World} {cf : Cf} {M R Tb : Nat} {bk : Bk} {l : List Gr} {dn : Nat → Nat → Bool} {lv tv : Value} {vs : List Value} {N : Nat} (L : LS Wb w cf M R Tb bk l dn lv tv vs N) (hN : N ≤ 1048576) (hp : bk.ph = 3) :
    Calls Tryz.prog 46 #[.pointer (some ⟨Wb, 0, none⟩)] w fun e w' => e = .returned (.bool true) ∧ Fin Wb cf M R Tb N w w' := by
  obtain ⟨hM, hR, b1, b2, b3, b4, b5, b6⟩ := L.bounds hN
  have c11 := L.t
  obtain ⟨la, lc, hlv⟩ := L.K.slice
  have HT : Hid (Calls Tryz.prog 85 #[.pointer (some ⟨Tb, 0, none⟩)] w fun e w1 => ∃ (sI sR sD sL lb : Nat), e = .returned (.agg #[.int .i64 3, .int .i64 sI, .int .i64 sR, .int .i64 sD, .int .i64 sL, .int .i64 ((sL : Int) - (sR : Int)), .int .i64 bk.now, .bool bk.fl]) ∧ (sI ≤ 1048576 ∧ sR ≤ 1048576 ∧ sD ≤ 1048576 ∧ sL ≤ 1048576 ∧ lb ≤ 1048576) ∧ w1.cell? ⟨Wb, 11, none⟩ = some (.pointer (some ⟨Tb, 0, none⟩)) ∧ Wb < w1.heap.size ∧ (0 : Int) < 1 ∧ Calls Tryz.prog 86 #[.pointer (some ⟨Tb, 0, none⟩)] (w1.alloc (.cells #[.int .i64 3, .int .i64 sI, .int .i64 sR, .int .i64 sD, .int .i64 sL, .int .i64 ((sL : Int) - (sR : Int)), .int .i64 bk.now, .bool bk.fl] 182)) fun e w2 => ∃ (ao : Option Addr) (vc : Nat), e = .returned (.slice ao sL vc) ∧ (w2.cell? ⟨Wb, 21, none⟩ = some (.slice la l.length lc) ∧ w2.cell? ⟨Wb, 70, none⟩ = some (.int .i64 bk.now) ∧ w2.heap[w1.heap.size]? = some (.cells #[.int .i64 3, .int .i64 sI, .int .i64 sR, .int .i64 sD, .int .i64 sL, .int .i64 ((sL : Int) - (sR : Int)), .int .i64 bk.now, .bool bk.fl] 182 (0, 0)) ∧ Wb < w2.heap.size) ∧ Hid (l.countP (Gr.cnt cf.lease bk.now) = sL) ∧
      Hid (∀ i (hi : i < l.length), l[i].cnt cf.lease bk.now = true → ∃ g, ao = some ⟨g, 0, none⟩ ∧ w2.cell? ⟨g, (l.take i).countP (Gr.cnt cf.lease bk.now), none⟩ = some (.int .i64 ((i : Int) + 1)) ∧ (l.take i).countP (Gr.cnt cf.lease bk.now) < sL) ∧
      Hid (∀ i (hi : i < l.length), ∀ W, Below w2.heap.size w2 W → Calls Tryz.prog 45 #[.pointer (some ⟨Wb, 13, none⟩), .int .i64 i] W fun e w' => e = .returned (.bool (l[i].cnt cf.lease bk.now)) ∧ Below w2.heap.size w2 w') ∧
      Hid (∀ W, Below w2.heap.size w2 W → Calls Tryz.prog 78 #[.pointer (some ⟨Wb, 13, none⟩), .int .i64 1] W fun e w3 => e = .returned (.int .i64 0) ∧ Calls Tryz.prog 78 #[.pointer (some ⟨Wb, 13, none⟩), .int .i64 2] w3 fun e w4 => e = .returned (.int .i64 0) ∧ (w4.heap[w1.heap.size]? = some (.cells #[.int .i64 3, .int .i64 sI, .int .i64 sR, .int .i64 sD, .int .i64 sL, .int .i64 ((sL : Int) - (sR : Int)), .int .i64 bk.now, .bool bk.fl] 182 (0, 0)) ∧ w4.cell? ⟨Wb, 13, none⟩ = some (.int .i64 M) ∧ w4.cell? ⟨Wb, 14, none⟩ = some (.int .i64 R)) ∧ Hid (Fin Wb cf M R Tb N w w4))) := by
    refine (tStatus L.T L.WT (by omega) b4).mono ?_
    rintro e w1 ⟨rfl, hS⟩
    obtain ⟨⟨cs, hcs, hcz⟩, K1, ⟨tv1, vs1, T1⟩, ⟨t1, m1⟩, f1, lo1⟩ := L.stands hS
    have L1 : LS Wb w1 cf M R Tb bk l dn lv tv1 vs1 N := ⟨⟨cs, hcs, hcz⟩, K1, T1, L.rel, L.ok, L.hM, L.hR, t1, m1, L.gs, L.now, L.WT⟩
    have tld := L.rel.told hM.2 hR
    have hba : Below w1.heap.size w1 (w1.alloc (.cells #[.int .i64 3, .int .i64 (stI bk.ts), .int .i64 (stR bk.ts), .int .i64 (stD bk.ts), .int .i64 (stL bk.ts), .int .i64 ((stL bk.ts : Int) - (stR bk.ts : Int)), .int .i64 bk.now, .bool bk.fl] 182)) := (Below.refl _ _).alloc (Nat.le_refl _) _
    have LA := L1.below hba
    have q1 : stI bk.ts ≤ bk.ts.length := by have := stat_all bk.ts; omega
    have q2 : stR bk.ts ≤ bk.ts.length := by have := stat_all bk.ts; omega
    have q3 : stD bk.ts ≤ bk.ts.length := by have := stat_all bk.ts; omega
    have q4 : l.countP (Gr.cnt cf.lease bk.now) ≤ l.length := List.countP_le_length
    have q5 := leftOf_le dn 2 R
    have q6 := tld.l
    refine ⟨stI bk.ts, stR bk.ts, stD bk.ts, stL bk.ts, leftOf dn 2 R, by rw [statV, hp]; rfl, ⟨by omega, by omega, by omega, by omega, by omega⟩, t1, lt_of_block hcs, by decide, (tLive LA.T LA.WT (by omega) b4).mono ?_⟩
    rintro e w2 ⟨⟨v, s, rfl, hs1, hs2, hown⟩, hS2⟩
    obtain ⟨ao, vc, rfl⟩ := hown_slice hown
    have hsc := L.rel.sorted_ids hs1 hs2
    have hsl : s.length = stL bk.ts := by rw [hsc, ctg_length, ← tld.l]
    obtain ⟨⟨cs2, hcs2, hcz2⟩, K2, ⟨tv2, vs2, T2⟩, ⟨t2, m2⟩, f2, lo2⟩ := LA.stands hS2
    have hst : w2.heap[w1.heap.size]? = _ := hS2.2.2.block _ _ _ _ (alloc_at w1 _) (by decide) (by decide) (by decide)
    have hcl := K2.cl
    rw [hlv] at hcl
    refine ⟨ao, vc, by rw [hsl], ⟨hcl, K2.cn, hst, lt_of_block hcs2⟩, tld.l.symm, fun i hi hc => ?_, fun i hi W hbW => ?_, fun W hbW => ?_⟩
    · have hat := ctg_at cf.lease bk.now l i hi hc
      rw [← hsc] at hat
      obtain ⟨hlt, hge⟩ := List.getElem?_eq_some_iff.1 hat
      rcases hown.2 with ⟨_, hn⟩ | ⟨g, cap, cur, hv, _⟩
      · omega
      · simp only [Value.slice.injEq] at hv
        obtain ⟨rfl, _, rfl⟩ := hv
        refine ⟨g, rfl, ?_, by omega⟩
        rw [hown.cellAt _ (by omega)]
        simp only [icn, List.getElem?_map, hat]
        simp
    · refine (counts (K2.below hbW) i hi b6 (L.rel.hd _ (List.getElem_mem hi))).mono ?_
      rintro e w' ⟨rfl, hb⟩
      exact ⟨rfl, hbW.trans (hb.mono hbW.size)⟩
    · refine (left (K2.below hbW) M R L.hM L.hR hM.2 hR.2 1 (.inl rfl)).mono ?_
      rintro e w3 ⟨rfl, hb3⟩
      have hb3' := hbW.trans (hb3.mono hbW.size)
      refine ⟨by rw [show nOf M R 1 = M from rfl, (tld.p3 hp).1]; rfl, (left (K2.below hb3') M R L.hM L.hR hM.2 hR.2 2 (.inr rfl)).mono ?_⟩
      rintro e w4 ⟨rfl, hb4⟩
      have hb4' := hb3'.trans (hb4.mono hb3'.size)
      have K4 := K2.below hb4'
      have k0 := K4.c0
      have k1 := K4.c1
      rw [L.hM] at k0
      rw [L.hR] at k1
      have LF := (⟨⟨cs2, hcs2, hcz2⟩, K2, T2, L.rel, L.ok, L.hM, L.hR, t2, m2, L.gs, L.now, L.WT⟩ : LS Wb w2 cf M R Tb bk l dn lv tv2 vs2 N).below hb4'
      refine ⟨by rw [show nOf M R 2 = R from rfl, (tld.p3 hp).2]; rfl, ⟨by rw [hb4'.block _ (lt_of_block hst)]; exact hst, k0, k1⟩, ⟨_, _, _, _, _, _, LF.up⟩, ?_, ?_⟩
      · exact ((lo1.trans (hba.mono (Nat.le_of_lt (lt_of_block hcs)))).trans lo2).trans (hb4'.mono (Nat.le_of_lt (lt_of_block hcs2)))
      · exact ((f1.trans (Fc.of_below hba)).trans f2).trans (Fc.of_below hb4')
  clear L b3 b4 hp hlv
  go_enter Tryz.func46, Tryz.ntmps46
  go_wp2_with (first | (go_at_call 85; refine HT.out.mono ?_; rintro e w1 ⟨sI, sR, sD, sL, lb, rfl, ⟨n1, n2, n3, n4, n5⟩, t1, hW1, hpos, HLV⟩) | (go_at_call 86; refine HLV.mono ?_; rintro e w2 ⟨ao, vc, rfl, ⟨c21, c70, hst, hW2⟩, HCN, HRW, HCT, HLF⟩))
  go_loopw [5, 6] (fun kv iv wr => ∃ i : Nat, i ≤ l.length ∧ kv = .int .i64 ((l.take i).countP (Gr.cnt cf.lease bk.now)) ∧ iv = .int .i64 i ∧ Below w2.heap.size w2 wr) (fun _ iv _ => l.length - (intOf iv).toNat)
  case atStart => exact ⟨0, Nat.zero_le _, rfl, rfl, Below.refl _ _⟩
  case round =>
    obtain ⟨i, hi, rfl, rfl, hb⟩ := hrel
    have d21 := (hb.cell (p := ⟨Wb, 21, none⟩) hW2).trans c21
    by_cases hil : i < l.length
    · have HK : Hid (Calls Tryz.prog 45 #[.pointer (some ⟨Wb, 13, none⟩), .int .i64 i] wr fun e w' => e = .returned (.bool (l[i].cnt cf.lease bk.now)) ∧ Below w2.heap.size w2 w') := HCT.out i hil wr hb
      have HR := HRW.out i hil
      have HTK : Hid ((l.take (i + 1)).countP (Gr.cnt cf.lease bk.now) = (l.take i).countP (Gr.cnt cf.lease bk.now) + (if l[i].cnt cf.lease bk.now = true then 1 else 0)) := countP_take _ l i hil
      have hk1 := List.countP_le_length (p := Gr.cnt cf.lease bk.now) (l := l.take i)
      have hk2 : (l.take i).length ≤ 1048576 := by simp; omega
      have HR' : Hid (_ → _) := HR
      clear HR HRW HCT HLF HT HLV HCN
      generalize (l.take i).countP (Gr.cnt cf.lease bk.now) = kk at *
      generalize l[i].cnt cf.lease bk.now = cn at *
      generalize (l.take i).length = tl at *
      cases cn with
      | true =>
        obtain ⟨g, hao, hcell, hlt⟩ := HR'.out rfl
        subst hao
        have hID : (((i : Int) + 1) != ((i : Int) + 1)) = false := by simp
        have hge : decide ((sL : Int) ≤ (kk : Int)) = false := by simp; omega
        have hlt2 : (kk : Int) < (sL : Int) := by omega
        have HC2 : Hid (∀ W, Below w2.heap.size w2 W → W.cell? ⟨g, kk, none⟩ = some (.int .i64 ((i : Int) + 1))) := fun W hbW => (hbW.cell (p := ⟨g, kk, none⟩) (hp_lt hcell)).trans hcell
        clear hcell HR'
        go_wp2_with (go_at_call 45; refine HK.out.mono ?_; rintro e w3 ⟨rfl, hb3⟩; have hcl3 := HC2.out w3 hb3)
        go_roundw
        case rel => exact ⟨i + 1, by omega, by rw [HTK.out]; go_num, by go_num, hb3⟩
        case measure => simp [intOf]; omega
      | false =>
        clear HR'
        go_wp2_with (go_at_call 45; refine HK.out.mono ?_; rintro e w3 ⟨rfl, hb3⟩)
        go_roundw
        case rel => exact ⟨i + 1, by omega, by rw [HTK.out]; go_num, by go_num, hb3⟩
        case measure => simp [intOf]; omega
    · obtain rfl : i = l.length := by omega
      rw [List.take_length, HCN.out]
      have d70 := (hb.cell (p := ⟨Wb, 70, none⟩) hW2).trans c70
      have hstr : wr.heap[w1.heap.size]? = some (.cells #[.int .i64 3, .int .i64 sI, .int .i64 sR, .int .i64 sD, .int .i64 sL, .int .i64 ((sL : Int) - (sR : Int)), .int .i64 bk.now, .bool bk.fl] 182 (0, 0)) := by rw [hb.block _ (lt_of_block hst)]; exact hst
      have s6 : wr.cell? ⟨w1.heap.size, 6, none⟩ = some (.int .i64 bk.now) := by simp [World.cell?, hstr]
      have HLF2 : Hid (∀ q, Calls Tryz.prog 78 #[.pointer (some ⟨Wb, 13, none⟩), .int .i64 1] (wr.drewN q) _) := fun q => HLF.out (wr.drewN q) (below_drewN hb q)
      have hI1 : ((sL : Int) != (sL : Int)) = false := by simp
      have hI2 : ((bk.now : Int) != (bk.now : Int)) = false := by simp
      clear HRW HCT HLF HT HLV HCN hst hstr c21 c70 t1
      go_wp2_with fail
      go_quiet (fail)
      go_wp2_with (go_at_call 78; first | (refine HB.mono ?_; rintro e w4 ⟨rfl, ⟨z, z13, z14⟩, hfin⟩; have y0 : w4.cell? ⟨w1.heap.size, 0, none⟩ = some (.int .i64 3) := (by simp [World.cell?, z]); have y1 : w4.cell? ⟨w1.heap.size, 1, none⟩ = some (.int .i64 sI) := (by simp [World.cell?, z]); have y2 : w4.cell? ⟨w1.heap.size, 2, none⟩ = some (.int .i64 sR) := (by simp [World.cell?, z]); have y3 : w4.cell? ⟨w1.heap.size, 3, none⟩ = some (.int .i64 sD) := (by simp [World.cell?, z]); have y4 : w4.cell? ⟨w1.heap.size, 4, none⟩ = some (.int .i64 sL) := (by simp [World.cell?, z]); have y5 : w4.cell? ⟨w1.heap.size, 5, none⟩ = some (.int .i64 ((sL : Int) - (sR : Int))) := (by simp [World.cell?, z]); clear z) | (refine (HLF2.out _).mono ?_; rintro e w3 ⟨rfl, HB⟩))
      go_ret
      exact ⟨rfl, hfin.out⟩
end Go.Proofs.YtibofakbhgmhiabGreatDoor

namespace Go.Proofs.YtibofakbhgmhiabGreatDoor
open Go.RowKit Go.MuLone

theorem wStatus {Wb : Nat} {w : World} {cf : Cf} {M R Tb : Nat} {bk : Bk} {l : List Gr} {dn : Nat → Nat → Bool} {lv tv : Value} {vs : List Value} {N : Nat} (L : LS Wb w cf M R Tb bk l dn lv tv vs N) (hN : N ≤ 1048576) :
    Calls Tryz.prog 46 #[.pointer (some ⟨Wb, 0, none⟩)] w fun e w' => e = .returned (.bool true) ∧ Fin Wb cf M R Tb N w w' := by
  have hph := L.rel.ph
  by_cases h1 : bk.ph = 1
  · exact wStatus1 L hN h1
  · by_cases h2 : bk.ph = 2
    · exact wStatus2 L hN h2
    · exact wStatus3 L hN (by omega)

set_option maxHeartbeats 1000000 in
set_option maxRecDepth 100000 in
theorem callStatus {Wb : Nat} {w : World} {cf : Cf} {M R Tb : Nat} {bk : Bk} {l : List Gr} {dn : Nat → Nat → Bool} {lv tv : Value} {vs : List Value} {N : Nat} (L : LS Wb w cf M R Tb bk l dn lv tv vs N) (hN : N ≤ 1048576) (A B C : Int) (s t : ByteArray) (hA1 : -9223372036854775808 ≤ A) (hA2 : A ≤ 9223372036854775807) (hA : pk6 A = 5) :
    Calls Tryz.prog 25 #[.pointer (some ⟨Wb, 0, none⟩), .agg #[.int .i64 9, .int .i64 A, .int .i64 B, .int .i64 C, .string s, .string t]] w fun e w' => e = .returned (.bool true) ∧ Fin Wb cf M R Tb N w w' := by
  have hbo : Below w.heap.size w (w.alloc (.cells #[.int .i64 9, .int .i64 A, .int .i64 B, .int .i64 C, .string s, .string t] 45)) := (Below.refl _ _).alloc (Nat.le_refl _) _
  have L0 := L.below hbo
  have lb0 : Below Wb w (w.alloc (.cells #[.int .i64 9, .int .i64 A, .int .i64 B, .int .i64 C, .string s, .string t] 45)) := hbo.mono (Nat.le_of_lt (hp_lt L.t))
  have c11 := L0.t
  have c12 := L0.m
  have hpk : Hid (∀ W, Calls Tryz.prog 19 #[.int .i64 A, .int .i64 6] W fun e w' => e = .returned (.int .i64 5) ∧ w' = W) := fun W => by
    have := pick6 A W hA1 hA2
    rw [hA] at this
    exact this
  have HW := wStatus L0 hN
  have HF : Hid (Calls Tryz.prog 46 #[.pointer (some ⟨Wb, 0, none⟩)] (w.alloc (.cells #[.int .i64 9, .int .i64 A, .int .i64 B, .int .i64 C, .string s, .string t] 45)) fun e w' => e = .returned (.bool true) ∧ Hid (Fin Wb cf M R Tb N w w')) := by
    refine HW.mono ?_
    rintro e w' ⟨rfl, f1, f2, f3⟩
    exact ⟨rfl, f1, lb0.trans f2, (Fc.of_below hbo).trans f3⟩
  clear L L0 HW lb0 hbo
  go_enter Tryz.func25, Tryz.ntmps25
  go_wp2_with (first | (go_at_call 19; refine (hpk.out _).mono ?_; rintro e w' ⟨rfl, rfl⟩) | (go_at_call 46; refine HF.out.mono ?_; rintro e w' ⟨rfl, hfin⟩))
  go_ret
  exact ⟨rfl, hfin.out⟩
set_option maxHeartbeats 1000000 in
set_option maxRecDepth 100000 in
theorem callReq {Wb : Nat} {w : World} {cf : Cf} {M R Tb : Nat} {bk : Bk} {l : List Gr} {dn : Nat → Nat → Bool} {lv tv : Value} {vs : List Value} {N : Nat} (L : LS Wb w cf M R Tb bk l dn lv tv vs N) (A B C : Int) (s t : ByteArray) (hA1 : -9223372036854775808 ≤ A) (hA2 : A ≤ 9223372036854775807) (hA : pk6 A = 0) (HW : Calls Tryz.prog 40 #[.pointer (some ⟨Wb, 0, none⟩)] (w.alloc (.cells #[.int .i64 9, .int .i64 A, .int .i64 B, .int .i64 C, .string s, .string t] 45)) fun e w' => e = .returned (.bool true) ∧ Fin Wb cf M R Tb N (w.alloc (.cells #[.int .i64 9, .int .i64 A, .int .i64 B, .int .i64 C, .string s, .string t] 45)) w') :
    Calls Tryz.prog 25 #[.pointer (some ⟨Wb, 0, none⟩), .agg #[.int .i64 9, .int .i64 A, .int .i64 B, .int .i64 C, .string s, .string t]] w fun e w' => e = .returned (.bool true) ∧ Fin Wb cf M R Tb N w w' := by
  have hbo : Below w.heap.size w (w.alloc (.cells #[.int .i64 9, .int .i64 A, .int .i64 B, .int .i64 C, .string s, .string t] 45)) := (Below.refl _ _).alloc (Nat.le_refl _) _
  have L0 := L.below hbo
  have lb0 : Below Wb w (w.alloc (.cells #[.int .i64 9, .int .i64 A, .int .i64 B, .int .i64 C, .string s, .string t] 45)) := hbo.mono (Nat.le_of_lt (hp_lt L.t))
  have c11 := L0.t
  have c12 := L0.m
  have hpk : Hid (∀ W, Calls Tryz.prog 19 #[.int .i64 A, .int .i64 6] W fun e w' => e = .returned (.int .i64 0) ∧ w' = W) := fun W => by
    have := pick6 A W hA1 hA2
    rw [hA] at this
    exact this
  have HF : Hid (Calls Tryz.prog 40 #[.pointer (some ⟨Wb, 0, none⟩)] (w.alloc (.cells #[.int .i64 9, .int .i64 A, .int .i64 B, .int .i64 C, .string s, .string t] 45)) fun e w' => e = .returned (.bool true) ∧ Hid (Fin Wb cf M R Tb N w w')) := by
    refine HW.mono ?_
    rintro e w' ⟨rfl, f1, f2, f3⟩
    exact ⟨rfl, f1, lb0.trans f2, (Fc.of_below hbo).trans f3⟩
  clear L L0 HW lb0 hbo
  go_enter Tryz.func25, Tryz.ntmps25
  go_wp2_with (first | (go_at_call 19; refine (hpk.out _).mono ?_; rintro e w' ⟨rfl, rfl⟩) | (go_at_call 40; refine HF.out.mono ?_; rintro e w' ⟨rfl, hfin⟩))
  go_ret
  exact ⟨rfl, hfin.out⟩
end Go.Proofs.YtibofakbhgmhiabGreatDoor
