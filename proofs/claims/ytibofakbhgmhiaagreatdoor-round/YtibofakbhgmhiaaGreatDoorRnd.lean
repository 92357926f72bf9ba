import Derived.Test.YtibofakbhgmhiaaGreatDoorDec3
import Derived.Laws.AppendOwnNone
import Derived.Deep.DeepCutAuto
import Derived.Deep.Cut
namespace Go.Proofs.YtibofakbhgmhiaaGreatDoor
open Go.RowKit Rd

theorem pc_at : ∀ (ps : PS) (j : Nat) (h : j < ps.length), (pc ps)[j * 2]? = some (.string ps[j].1) ∧ (pc ps)[j * 2 + 1]? = some (.string ps[j].2)
  | [], j, h => absurd h (Nat.not_lt_zero _)
  | p :: ps, 0, _ => ⟨rfl, rfl⟩
  | p :: ps, j + 1, h => by
    have := pc_at ps j (by simpa using h)
    rw [show (j + 1) * 2 = j * 2 + 2 from by omega]
    exact ⟨by simpa [pc] using this.1, by simpa [pc] using this.2⟩

theorem pairs_of_own {w : World} {B : Nat} {v : Value} {ps : PS} (h : w.ownsRow B 32 2 v ps.length (pc ps)) : PairsAt w v ps := by
  have h' := h
  rcases h.2 with ⟨rfl, hn⟩ | ⟨g, cap, cur, rfl, _, _, hnc, _⟩
  · have : ps = [] := List.length_eq_zero_iff.1 hn
    subst this
    exact ⟨none, 0, rfl, fun j hj => absurd hj (Nat.not_lt_zero _)⟩
  · refine ⟨some ⟨g, 0, none⟩, cap, rfl, fun j hj => ⟨g, 0, rfl, ?_, ?_⟩⟩
    · have := h'.cells (g := g) rfl (j * 2) (.string ps[j].1) (pc_at ps j hj).1
      have e : (⟨g, 0, none⟩ : Addr).add (j * 2) = ⟨g, 0 + j * 2, none⟩ := by unfold Addr.add; split <;> simp_all
      rwa [e] at this
    · have := h'.cells (g := g) rfl (j * 2 + 1) (.string ps[j].2) (pc_at ps j hj).2
      have e : (⟨g, 0, none⟩ : Addr).add (j * 2 + 1) = ⟨g, 0 + j * 2 + 1, none⟩ := by unfold Addr.add; split <;> simp_all
      rwa [e] at this

theorem pc_one : ∀ (ps : PS), ∀ u ∈ pc ps, u.oneCell' = true
  | [], u, h => by cases h
  | p :: ps, u, h => by
    simp [pc] at h
    rcases h with rfl | rfl | h
    · rfl
    · rfl
    · exact pc_one ps u h
theorem bys_inj {a b : PS} (h : bys a = bys b) : a = b := by
  unfold bys at h
  refine List.map_inj_right (fun x y e => ?_) |>.1 h
  simp only [Prod.mk.injEq] at e
  exact Prod.ext (bytes_eq e.1) (bytes_eq e.2)
theorem short_sizes {ps : PS} (h : Short (bys ps)) : ∀ p ∈ ps, p.1.size ≤ 4294967295 ∧ p.2.size ≤ 4294967295 := by
  intro p hp
  have := h (p.1.data.toList, p.2.data.toList) (by simp [bys]; exact ⟨p.1, p.2, hp, rfl, rfl⟩)
  have e1 : p.1.data.toList.length = p.1.size := by simp
  have e2 : p.2.data.toList.length = p.2.size := by simp
  rw [e1, e2] at this
  omega

theorem Tryz.pairStruct : Tryz.prog.underlying 32 = some (.struct (Tryz.prog.fieldsOf 32)) := by kernel_rfl

theorem Tryz.pairFields : (Tryz.prog.fieldsOf 32).toList.map (fun f => (f.name, f.type, f.offset)) = [("Key", 9, 0), ("Value", 9, 1)] := by kernel_rfl
theorem part0 (x y : ByteArray) (w : World) : (part 9 #[.string x, .string y] 0).run Tryz.prog w = .ok (.string x) w := by kernel_rfl
theorem part1 (x y : ByteArray) (w : World) : (part 9 #[.string x, .string y] 1).run Tryz.prog w = .ok (.string y) w := by kernel_rfl

theorem pair_same (x y : ByteArray) (w : World) : (binOp .neq 32 (.agg #[.string x, .string y]) (.agg #[.string x, .string y])).run Tryz.prog w = .ok (.bool false) w := by
  rw [run_neq_struct, run_equalIn_agg w 9999 32 _ _ Tryz.pairStruct (by kernel_rfl)]
  obtain ⟨f0, r, hr, h0, h1⟩ := List.map_eq_cons_iff.1 Tryz.pairFields
  obtain ⟨f1, r1, rfl, h2, h3⟩ := List.map_eq_cons_iff.1 h1
  obtain rfl := List.map_eq_nil_iff.1 h3
  simp only [Prod.mk.injEq] at h0 h2
  rw [hr]
  have e1 := run_equalIn_string (P := Tryz.prog) w 9998 9 x x Tryz.underlying9
  have e2 := run_equalIn_string (P := Tryz.prog) w 9998 9 y y Tryz.underlying9
  simp [Op.eqFields, h0.1, h0.2.1, h0.2.2, h2.1, h2.2.1, h2.2.2, part0, part1, e1, e2]

set_option maxHeartbeats 2000000 in
set_option maxRecDepth 100000 in
theorem round (a : Nat → Addr) (Wb B0 : Nat) (ps : PS) (pv : Value) (s : ByteArray) (w : World) (S : Sents w a) (hT : Tab w) (hG : 12 < w.heap.size)
    (hW : w.cell? ⟨Wb, 9, none⟩ = some pv) (hown : w.ownsRow B0 32 2 pv ps.length (pc ps)) (hE : (enc crcN (bys ps)).length ≤ 1099511627776) (hSh : Short (bys ps)) (hs : s.size ≤ 1099511627776) :
    Calls Tryz.prog 33 #[.pointer (some ⟨Wb, 0, none⟩), .string s] w fun e w' => e = .returned (.bool true) ∧ Below w.heap.size w w' := by
  obtain ⟨i0, hi, hz0, hz1, hz2⟩ := info_parts Tryz.infoPair
  have hge := enc_ge ps
  have hW' : ∀ o, (w.alloc o).cell? ⟨Wb, 9, none⟩ = some pv := fun o => (World.cell?_alloc_lt w o ⟨Wb, 9, none⟩ (cell_lt hW)).trans hW
  go_enter Tryz.func33, Tryz.ntmps33
  go_upto_region 1 with fail
  go_cut [5] (fun l wc => wc.ownsRow w.heap.size 32 2 l ps.length (pc ps) ∧ Below w.heap.size w wc)
  case first =>
    have hmade := World.ownsRow_made (base := w.heap.size) (e := 32) (size := 2) w #[] 0 (Nat.le_refl _) (by decide) rfl
    have hown0 := hown
    rcases hown.2 with ⟨rfl, hn⟩ | ⟨g, cap, cur, rfl, _, hcur, hnc, _⟩
    · have hps : ps = [] := List.length_eq_zero_iff.1 hn
      subst hps
      go_wp2_with (at_builtin; refine wpList_append_own_none rfl (.tmp 13) (.tmp 17) 33 rfl w.heap.size 32 i0 2 Tryz.underlying33 hi _ 0 [] rfl hmade rfl ?_)
      go_meet
      exact ⟨hmade, (Below.refl _ _).alloc (Nat.le_refl _) _⟩
    · go_wp2_with (at_builtin; refine wpList_append_own _ rfl (.tmp 13) (.tmp 17) 33 rfl w.heap.size 32 i0 (.agg #[.string ⟨#[]⟩, .string ⟨#[]⟩]) 2 32 Tryz.underlying33 hi hz0 hz1 hz2 rfl (by decide) _ _ _ rfl hmade ⟨g, 0, none⟩ ps.length cap (pc ps) rfl (pc_length ps) ?c1 ?c2 ?c3 ?c4 ?c5 ?_)
      case c1 =>
        intro j u hj
        have h2 := hown0.cells (g := g) rfl j u hj
        exact (World.cell?_alloc_lt w _ _ (cell_lt h2)).trans h2
      case c2 => exact pc_one ps
      case c3 => unfold maxLen; omega
      case c4 => omega
      case c5 => simp
      intro v1 w1 hown1 hg1 _
      have hb1 : Below w.heap.size w w1 := ((Below.refl _ _).alloc (Nat.le_refl _) _).grown hg1 (by simp) (fun k hk => by simp [Value.ownBlock] at hk; omega)
      have hown2 : w1.ownsRow w.heap.size 32 2 v1 ps.length (pc ps) := by simpa using hown1
      clear hown1 hg1 hown hown0
      go_wp2_with fail
      go_meet
      exact ⟨hown2, hb1⟩
  case rest =>
    obtain ⟨hownL, hbL⟩ := hcut
    have hsL := hbL.size
    have hpL := pairs_of_own hownL
    have SL := S.below hbL
    have hTL := hT.below hbL hG
    have hS2 : ∀ p ∈ ps, p.1.size ≤ 4294967295 ∧ p.2.size ≤ 4294967295 := short_sizes hSh
    clear hown hW hW' hi hz0 hz1 hz2
    go_wp2_with fail
    refine (pencode ps _ _ hpL hTL (by omega) (by omega) (by omega) hS2).mono ?_
    rintro e w2 ⟨rfl, hb2⟩
    have hs2 := hb2.size
    have S2 := SL.below hb2
    have hT2 := hTL.below hb2 (by omega)
    have hown2 := own_below hownL hb2
    have hpE : (⟨(enc crcN (bys ps)).toArray⟩ : ByteArray).size ≤ 1099511627776 := by
      show (enc crcN (bys ps)).toArray.size ≤ _
      simpa using hE
    go_wp2_with fail
    refine (pdecode a _ _ S2 hT2 (by omega) hpE).mono ?_
    rintro e w3 ⟨h | h, hb3⟩
    · obtain ⟨mv, ps', rfl, hown3, he3, hsh3⟩ := h
      have hps : ps' = ps := by
        apply bys_inj
        apply enc_inj crcN crcN_lt _ _ hsh3 hSh
        rw [← he3]
      subst hps
      have hs3 := hb3.size
      have hownL3 := own_below hown2 hb3
      obtain ⟨al, cl, hlv⟩ := own_slice hownL3
      obtain ⟨am, cm, hmv⟩ := own_slice hown3
      have hpL3 := pairs_of_own hownL3
      have hpM3 := pairs_of_own hown3
      clear he3 hsh3
      subst hmv
      subst hlv
      go_wp2_with fail
      go_loopw [10, 11] (fun n i wr => ∃ k q : Nat, k ≤ ps'.length ∧ i = .int .i64 k ∧ n = .int .i64 (enc crcN (bys (ps'.take k))).length ∧ wr = w3.drewN q) (fun _ i _ => ps'.length - (intOf i).toNat)
      case atStart => exact ⟨0, 0, Nat.zero_le _, rfl, rfl, rfl⟩
      case round =>
        obtain ⟨k, q, hk, rfl, rfl, rfl⟩ := hrel
        have hL := enc_take_le ps' k
        by_cases hlt : k < ps'.length
        · obtain ⟨a1, c1, e1, f1⟩ := hpL3
          obtain ⟨a2, c2, e2, f2⟩ := hpM3
          obtain ⟨b1, o1, rfl, l0, l1⟩ := f1 k hlt
          obtain ⟨b2, o2, rfl, m0, m1⟩ := f2 k hlt
          simp only [Value.slice.injEq] at e1 e2
          obtain ⟨rfl, _, _⟩ := e1
          obtain ⟨rfl, _, _⟩ := e2
          have hz := hS2 ps'[k] (List.getElem_mem _)
          have hsame := fun W => pair_same ps'[k].1 ps'[k].2 W
          have HN : Hid ((enc crcN (bys (ps'.take (k + 1)))).length = (enc crcN (bys (ps'.take k))).length + 12 + ps'[k].1.size + ps'[k].2.size) := by
            show _ = _
            rw [enc_take_succ ps' k hlt, List.length_append, recd_length]
            simp; omega
          generalize ps'[k] = pk at *
          generalize (enc crcN (bys (ps'.take k))).length = nk at *
          clear f1 f2 hS2 hpE hownL3 hown3 hown2 hownL SL S2 hT2 hTL hT S hb3 hb2 hbL
          go_wp2_with fail
          go_quiet (fail)
          go_wp2_with fail
          go_quiet (fail)
          go_wp2
          go_roundw
          case rel => exact ⟨k + 1, _, by omega, by go_num, by rw [HN.out]; go_num, rfl⟩
          case measure => simp [intOf]; omega
        · obtain rfl : k = ps'.length := by omega
          rw [List.take_length]
          obtain ⟨T, hTe⟩ : ∃ T : ByteArray, T = ⟨(enc crcN (bys ps')).toArray⟩ := ⟨_, rfl⟩
          rw [← hTe]
          have hTs : T.size = (enc crcN (bys ps')).length := by
            rw [hTe]; show (enc crcN (bys ps')).toArray.size = _; simp
          rw [← hTs]
          have hne0 : ((((T.size : Nat) : Int)) != ((T.size : Nat) : Int)) = false := by simp
          have S3 := (S2.below hb3).below (below_drewN (Below.refl w3.heap.size w3) q)
          have hT3 := (hT2.below hb3 (by omega)).below (below_drewN (Below.refl w3.heap.size w3) q) (by omega)
          clear hTe hTs hpE hownL3 hown3 hown2 hownL SL S2 hT2 hTL hT S hL hpL3 hpM3 hS2
          have hB3 : Below w.heap.size w (w3.drewN q) := below_drewN ((hbL.trans (hb2.mono hsL)).trans (hb3.mono (by omega))) _
          clear hbL hb2 hb3
          go_wp2_with fail
          refine (pdecode a s _ S3 hT3 (by simp; omega) hs).mono ?_
          rintro e w4 ⟨h4 | h4, hb4⟩
          · obtain ⟨mv, ps2, rfl, hown4, he4, hsh4⟩ := h4
            have hs4 := hb4.size
            have hp4 := pairs_of_own hown4
            have hT4 := hT3.below hb4 (by simp; omega)
            have hsl : s.size = (enc crcN (bys ps2)).length := by
              have := congrArg List.length he4
              simpa using this
            have hge2 := enc_ge ps2
            have hSz := short_sizes hsh4
            have HS : Hid ((⟨(enc crcN (bys ps2)).toArray⟩ : ByteArray) = s) := bytes_eq (by rw [he4])
            have hB4 := hB3.trans (hb4.mono (by simp; omega))
            simp at hs4
            clear hown4 he4 hsh4 hb4 S3 hT3 hB3
            go_wp2_with fail
            refine (pencode ps2 _ _ hp4 hT4 (by omega) (by omega) (by omega) hSz).mono ?_
            rw [HS.out]
            rintro e w5 ⟨rfl, hb5⟩
            clear hp4 hT4 hSz hsl
            have hss : (s.toList == s.toList) = true := by simp
            go_wp2
            go_ret
            exact ⟨by simp, hB4.trans (hb5.mono (by omega))⟩
          · obtain ⟨ps2, t2, c2, rfl, hc2, _⟩ := h4
            have hB4 := hB3.trans (hb4.mono (by simp; omega))
            clear S3 hT3 hB3 hb4
            rcases hc2 with rfl | rfl
            · go_wp2
              go_ret
              exact ⟨rfl, hB4⟩
            · go_wp2
              go_ret
              exact ⟨rfl, hB4⟩
    · obtain ⟨ps', t', c', _, _, he, hne, hcut', hsh'⟩ := h
      exfalso
      exact enc_no crcN crcN_lt (bys ps') (bys ps) t'.data.toList c' hsh' hSh hne hcut' (by rw [← he])
end Go.Proofs.YtibofakbhgmhiaaGreatDoor
