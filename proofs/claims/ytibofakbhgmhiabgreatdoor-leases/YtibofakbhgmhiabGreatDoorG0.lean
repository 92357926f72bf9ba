import Derived.Test.YtibofakbhgmhiabGreatDoorSMa
import Derived.Deep.RegionWith

namespace Go.Proofs.YtibofakbhgmhiabGreatDoor
open Go.RowKit

/-- what a step that gathers lets be: all but its own lists, and of the world's block all cells but those that J names -/
structure Fr (J : Nat → Prop) (Wb : Nat) (w w' : World) : Prop where
  block : ∀ (k : Nat) (c : Array Value) (t : TypeId) (fz : Nat × Nat), w.heap[k]? = some (.cells c t fz) → t ≠ 43 → t ≠ 64 → t ≠ 56 → t ≠ 66 → w'.heap[k]? = some (.cells c t fz)
  cell : ∀ j, ¬ J j → w'.cell? ⟨Wb, j, none⟩ = w.cell? ⟨Wb, j, none⟩
theorem Fr.trans {J : Nat → Prop} {Wb : Nat} {a b c : World} (h : Fr J Wb a b) (k : Fr J Wb b c) : Fr J Wb a c :=
  ⟨fun i cc t fz hi h1 h2 h3 h4 => k.block i cc t fz (h.block i cc t fz hi h1 h2 h3 h4) h1 h2 h3 h4, fun j hj => (k.cell j hj).trans (h.cell j hj)⟩
theorem Fr.of_below {J : Nat → Prop} {Wb : Nat} {w w' : World} (hb : Below w.heap.size w w') (hW : Wb < w.heap.size) : Fr J Wb w w' :=
  ⟨fun k c t fz hk _ _ _ _ => by rw [hb.block k (Array.getElem?_eq_some_iff.1 hk).1]; exact hk, fun j _ => hb.cell (p := ⟨Wb, j, none⟩) hW⟩
theorem Fr.grown {J : Nat → Prop} {Wb : Nat} {w w2 : World} {cs : Array Value} (hblk : w.heap[Wb]? = some (.cells cs 43 (0, 0))) {e : TypeId} {size : Nat} {v : Value} {n : Nat} {xs : List Value} (ho : w.ownsRow Wb e size v n xs) (he : e = 64 ∨ e = 56 ∨ e = 66) (hg : w.grownBy w2 v.ownBlock) : Fr J Wb w w2 := by
  have hkw : 43 ≠ e := by rcases he with rfl | rfl | rfl <;> decide
  refine ⟨fun k c t fz hk _ h2 h3 h4 => ?_, fun j _ => ?_⟩
  · rw [hg.block k (Array.getElem?_eq_some_iff.1 hk).1 (fun e' => row_ne' ho hk (by rcases he with rfl | rfl | rfl <;> assumption) e'.symm)]; exact hk
  · have : w2.heap[Wb]? = w.heap[Wb]? := hg.block Wb (Array.getElem?_eq_some_iff.1 hblk).1 (fun e' => row_ne' ho hblk hkw e'.symm)
    simp only [World.cell?, this]
theorem Fr.put {J : Nat → Prop} {Wb : Nat} {w : World} {cs : Array Value} (hblk : w.heap[Wb]? = some (.cells cs 43 (0, 0))) (j : Nat) (hj : J j) (v : Value) : Fr J Wb w (w.setCell ⟨Wb, j, none⟩ v) := by
  refine ⟨fun k c t fz hk h1 _ _ _ => ?_, fun i hi => ?_⟩
  · rw [Below.heap_setCell _ ⟨Wb, j, none⟩ _ k (by rintro rfl; rw [hblk] at hk; simp only [Option.some.injEq, Obj.cells.injEq] at hk; exact h1 hk.2.1.symm)]
    exact hk
  · have hne : j ≠ i := by rintro rfl; exact hi hj
    have hb2 := put_block (j := j) (v := v) hblk
    simp only [World.cell?, hb2, hblk]
    simp [hne]
theorem KInv.put8F {Wb : Nat} {w w2 : World} {rr : List (List Int)} {N : Nat} {cs : Array Value} {ev pv rv : Value} {ne np : Nat} {xe xp xr : List Value} (K : KInv Wb w rr N cs ev pv rv ne np xe xp xr) {v : Value} {n : Nat} {xs : List Value} (ho : w2.ownsRow Wb 64 3 v n xs) (hg : w.grownBy w2 ev.ownBlock) (hn : n ≤ N + 1) : KHas Wb (w2.setCell ⟨Wb, 8, none⟩ v) rr (N + 1) ∧ Below Wb w (w2.setCell ⟨Wb, 8, none⟩ v) ∧ Fr (· = 8) Wb w (w2.setCell ⟨Wb, 8, none⟩ v) :=
  ⟨(K.put8 ho hg hn).1, (K.put8 ho hg hn).2, (Fr.grown K.blk K.oe (.inl rfl) hg).trans (Fr.put (J := (· = 8)) (K.grownBlk K.oe (by decide) hg) 8 rfl v)⟩
theorem KInv.put9F {Wb : Nat} {w w2 : World} {rr : List (List Int)} {N : Nat} {cs : Array Value} {ev pv rv : Value} {ne np : Nat} {xe xp xr : List Value} (K : KInv Wb w rr N cs ev pv rv ne np xe xp xr) {v : Value} {n : Nat} {xs : List Value} (ho : w2.ownsRow Wb 56 2 v n xs) (hg : w.grownBy w2 pv.ownBlock) (hn : n ≤ N + 1) : KHas Wb (w2.setCell ⟨Wb, 9, none⟩ v) rr (N + 1) ∧ Below Wb w (w2.setCell ⟨Wb, 9, none⟩ v) ∧ Fr (· = 9) Wb w (w2.setCell ⟨Wb, 9, none⟩ v) :=
  ⟨(K.put9 ho hg hn).1, (K.put9 ho hg hn).2, (Fr.grown K.blk K.op (.inr (.inl rfl)) hg).trans (Fr.put (J := (· = 9)) (K.grownBlk K.op (by decide) hg) 9 rfl v)⟩
theorem KInv.put10F {Wb : Nat} {w w2 : World} {rr : List (List Int)} {N : Nat} {cs : Array Value} {ev pv rv : Value} {ne np : Nat} {xe xp xr : List Value} (K : KInv Wb w rr N cs ev pv rv ne np xe xp xr) {v u : Value} {l : List Int} (hu : w.ownsRow Wb 3 1 u l.length (ic l)) (ho : w2.ownsRow Wb 66 1 v (rr.length + 1) (xr ++ [u])) (hg : w.grownBy w2 rv.ownBlock) : KHas Wb (w2.setCell ⟨Wb, 10, none⟩ v) (rr ++ [l]) (N + 1) ∧ Below Wb w (w2.setCell ⟨Wb, 10, none⟩ v) ∧ Fr (· = 10) Wb w (w2.setCell ⟨Wb, 10, none⟩ v) :=
  ⟨(K.put10 hu ho hg).1, (K.put10 hu ho hg).2, (Fr.grown K.blk K.or (.inr (.inr rfl)) hg).trans (Fr.put (J := (· = 10)) (K.grownBlk K.or (by decide) hg) 10 rfl v)⟩
end Go.Proofs.YtibofakbhgmhiabGreatDoor

namespace Go.Proofs.YtibofakbhgmhiabGreatDoor
open Go.RowKit

theorem Tryz.infoInts : (Tryz.prog.info? 66).map (fun i => (i.zero, i.size, i.bytes)) = some (some (.slice none 0 0), 1, 24) := by kernel_rfl

set_option maxHeartbeats 4000000 in
set_option maxRecDepth 100000 in
theorem lstep_run (Wb : Nat) (A B C : Int) (s t : ByteArray) (w : World) (rr : List (List Int)) (N : Nat) (K : KHas Wb w rr N) (hN : N ≤ 1048576) (hs : s.size ≤ 1099511627776) :
    Calls Tryz.prog 11 #[.pointer (some ⟨Wb, 0, none⟩), opV 7 A B C s t] w fun e w' => e = .returned (.bool true) ∧ ∃ l, Srt l ∧ l.length ≤ s.size ∧ KHas Wb w' (rr ++ [l]) (N + 1) ∧ Below Wb w w' ∧ Fr (· = 10) Wb w w' := by
  obtain ⟨cs, ev, pv, rv, ne, np, xe, xp, xr, K⟩ := K
  obtain ⟨i0, hi, hz0, hz1, hz2⟩ := info_parts Tryz.infoInts
  have hb0 : Below w.heap.size w (w.alloc (.cells #[.int .i64 7, .int .i64 A, .int .i64 B, .int .i64 C, .string s, .string t] 45)) := (Below.refl _ _).alloc (Nat.le_refl _) _
  have K1 := K.grown hb0
  have c10 := (K1.cell 10).trans K1.e10
  have f10 := K1.frozen 10
  have hlp := K.lr
  have hlt := K.lt
  have HC : Hid (∀ w1, Below (w.alloc (.cells #[.int .i64 7, .int .i64 A, .int .i64 B, .int .i64 C, .string s, .string t] 45)).drew.heap.size (w.alloc (.cells #[.int .i64 7, .int .i64 A, .int .i64 B, .int .i64 C, .string s, .string t] 45)).drew w1 → w1.cell? ⟨Wb, 10, none⟩ = some rv ∧ w1.frozen? ⟨Wb, 10, none⟩ = false ∧ w.heap.size < w1.heap.size ∧
      (∀ o, (w1.alloc o).ownsRow Wb 66 1 rv rr.length xr ∧ (w1.alloc o).cell? ⟨Wb, 10, none⟩ = some rv ∧ (∀ w2, (w1.alloc o).grownBy w2 rv.ownBlock → (w2.cell? ⟨Wb, 10, none⟩ = some rv ∧ w2.frozen? ⟨Wb, 10, none⟩ = false) ∧ ∀ v u l, w1.ownsRow (w.heap.size + 1) 3 1 u l.length (ic l) → w2.ownsRow Wb 66 1 v (rr.length + 1) (xr ++ [u]) → KHas Wb (w2.setCell ⟨Wb, 10, none⟩ v) (rr ++ [l]) (N + 1) ∧ Below Wb w (w2.setCell ⟨Wb, 10, none⟩ v) ∧ Fr (· = 10) Wb w (w2.setCell ⟨Wb, 10, none⟩ v)))) := by
    intro w1 hb1
    have K2 := (K1.grown (Below.refl _ _).drew).grown hb1
    have hsz := hb1.size
    refine ⟨(K2.cell 10).trans K2.e10, K2.frozen 10, by simp [World.drew] at hsz; omega, fun o => ?_⟩
    have K3 := K2.grown ((Below.refl _ _).alloc (Nat.le_refl _) o)
    refine ⟨K3.or, (K3.cell 10).trans K3.e10, fun w2 hg => ?_⟩
    have hblk := K3.grownBlk K3.or (by decide) hg
    refine ⟨⟨by have := K3.e10; simpa [World.cell?, hblk] using this, by simp [World.frozen?, hblk]⟩, fun v u l hu ho => ?_⟩
    have := K3.put10F (hown_below (own_mono hu (by have := K.lt; omega)) ((Below.refl _ _).alloc (Nat.le_refl _) o)) ho hg
    exact ⟨this.1, ((hb0.mono (Nat.le_of_lt K.lt)).drew.trans (hb1.mono (by have := K1.lt; simp [World.drew] at this ⊢; omega))).trans (((Below.refl _ _).alloc (Nat.le_of_lt K2.lt) o).trans this.2.1), ((Fr.of_below (((Below.refl _ _).alloc (Nat.le_refl _) _).drew) K.lt).trans (Fr.of_below hb1 K1.lt)).trans ((Fr.of_below ((Below.refl _ _).alloc (Nat.le_refl _) o) K2.lt).trans this.2.2)⟩
  have HSZ : Hid ((w.alloc (.cells #[.int .i64 7, .int .i64 A, .int .i64 B, .int .i64 C, .string s, .string t] 45)).drew.heap.size = w.heap.size + 1) := by show _ = _; simp [World.drew]
  clear K K1
  go_enter Tryz.func11, Tryz.ntmps11
  go_wp2_with fail
  go_region_law (first
    | (refine step_append_lies _ rfl (.tmp 74) (.tmp 78) 33 rfl Wb 66 i0 (.slice none 0 0) 1 24 Tryz.underlying33 hi hz0 hz1 hz2 rfl (by decide) rv rr.length xr (by simp [Act.eval]) (HA _).1 ⟨w1.heap.size, 0, none⟩ 1 1 [.slice a' l.length c'] (by simp [Act.eval]) rfl (one_new w1 (.slice a' l.length c') _) (by intro u hu; simp at hu; subst hu; rfl) (by decide) (by unfold maxLen; omega) (by omega) (by simp; omega) (w1.heap.size + 1) (by simp) ?_; intro g cap w2 hown2 hg2 hgg hlt2; obtain ⟨⟨d9, e9⟩, HE⟩ := (HA _).2.2 w2 hg2)
    | (go_simp; go_at_call 23; refine (rising s _ hs).mono ?_; rintro e w1 ⟨⟨va, l, rfl, hso, hll, hul⟩, hb1⟩; obtain ⟨a', c', rfl⟩ := hown_slice hul; rw [HSZ.out] at hul; obtain ⟨d1, d2, d3, HA⟩ := HC.out w1 hb1))
  all_goals
    go_wp2
    go_ret
    exact ⟨rfl, l, hso, hll, (HE _ _ l hul hown2).1, (HE _ _ l hul hown2).2.1, (HE _ _ l hul hown2).2.2⟩
end Go.Proofs.YtibofakbhgmhiabGreatDoor

namespace Go.Proofs.YtibofakbhgmhiabGreatDoor
open Go.RowKit

theorem Tryz.infoPair : (Tryz.prog.info? 56).map (fun i => (i.zero, i.size, i.bytes)) = some (some (.agg #[.string ⟨#[]⟩, .string ⟨#[]⟩]), 2, 32) := by kernel_rfl

def pk (c : Int) : Nat := ((if c < 0 then -(c + 1) else c) % 8).toNat
theorem pk_lt (c : Int) : pk c < 8 := by unfold pk; omega
theorem pick8 (c : Int) (w : World) (h1 : -9223372036854775808 ≤ c) (h2 : c ≤ 9223372036854775807) :
    Calls Tryz.prog 19 #[.int .i64 c, .int .i64 8] w fun e w' => e = .returned (.int .i64 (pk c)) ∧ w' = w := by
  by_cases hc : c < 0
  · have e : ((pk c : Nat) : Int) = -(c + 1).tmod 8 := by
      unfold pk; rw [if_pos hc]
      obtain ⟨n, hn⟩ : ∃ n : Int, n = -(c + 1) := ⟨_, rfl⟩
      rw [← hn, show c + 1 = -n by omega, Int.neg_tmod, Int.neg_neg, Int.tmod_eq_emod_of_nonneg (by omega)]
      omega
    rw [e]
    go_enter Tryz.func19, Tryz.ntmps19
    go_wp2
    go_ret
    exact ⟨rfl, rfl⟩
  · have e : ((pk c : Nat) : Int) = c % 8 := by unfold pk; rw [if_neg hc]; omega
    rw [e]
    have hc' : 0 ≤ c := by omega
    go_enter Tryz.func19, Tryz.ntmps19
    go_wp2
    go_ret
    exact ⟨rfl, rfl⟩

set_option maxHeartbeats 2000000 in
set_option maxRecDepth 100000 in
theorem lstep_pair (Wb : Nat) (A B C : Int) (s t : ByteArray) (w : World) (rr : List (List Int)) (N : Nat) (K : KHas Wb w rr N) (hN : N ≤ 1048576) :
    Calls Tryz.prog 11 #[.pointer (some ⟨Wb, 0, none⟩), opV 5 A B C s t] w fun e w' => e = .returned (.bool true) ∧ KHas Wb w' rr (N + 1) ∧ Below Wb w w' ∧ Fr (· = 9) Wb w w' := by
  obtain ⟨cs, ev, pv, rv, ne, np, xe, xp, xr, K⟩ := K
  obtain ⟨i0, hi, hz0, hz1, hz2⟩ := info_parts Tryz.infoPair
  have hb0 : Below w.heap.size w (w.alloc (.cells #[.int .i64 5, .int .i64 A, .int .i64 B, .int .i64 C, .string s, .string t] 45)) := (Below.refl _ _).alloc (Nat.le_refl _) _
  have K1 := K.grown hb0
  have K2 := K1.grown ((Below.refl _ _).alloc (Nat.le_refl _) (.cells #[.string s, .string t] 56))
  have c9 := (K1.cell 9).trans K1.e9
  have f9 := K1.frozen 9
  have c9' := (K2.cell 9).trans K2.e9
  have f9' := K2.frozen 9
  have HO : Hid ((((w.alloc (.cells #[.int .i64 5, .int .i64 A, .int .i64 B, .int .i64 C, .string s, .string t] 45)).alloc (.cells #[.string s, .string t] 56)).drew).ownsRow Wb 56 2 pv np xp) := K2.op
  have HN : Hid (∀ (j : Nat) (u : Value), [Value.string s, .string t][j]? = some u → (((w.alloc (.cells #[.int .i64 5, .int .i64 A, .int .i64 B, .int .i64 C, .string s, .string t] 45)).alloc (.cells #[.string s, .string t] 56)).drew).cell? ((⟨w.heap.size + 1, 0, none⟩ : Addr).add j) = some u) := by
    intro j u hj
    have e : (⟨w.heap.size + 1, 0, none⟩ : Addr).add j = ⟨w.heap.size + 1, j, none⟩ := by unfold Addr.add; split <;> simp_all
    rw [e]
    show ((w.alloc _).alloc _).cell? _ = _
    rw [World.cell?_alloc_at _ _ _ _ (by simp)]
    rcases j with _ | _ | j
    · simpa using hj
    · simpa using hj
    · simp at hj
  have H1 : Hid (∀ u ∈ [Value.string s, .string t], u.oneCell' = true) := by
    intro u hu; simp at hu; rcases hu with rfl | rfl <;> rfl
  have HK : Hid (∀ w2, (((w.alloc (.cells #[.int .i64 5, .int .i64 A, .int .i64 B, .int .i64 C, .string s, .string t] 45)).alloc (.cells #[.string s, .string t] 56)).drew).grownBy w2 pv.ownBlock → w2.cell? ⟨Wb, 9, none⟩ = some pv ∧ w2.frozen? ⟨Wb, 9, none⟩ = false) := by
    intro w2 hg
    have e : w2.heap[Wb]? = some (.cells cs 43 (0, 0)) := by
      rw [hg.block Wb (K2.lt) (fun e => row_ne' K2.op K2.blk (by decide) e.symm)]; exact K2.blk
    have c := K2.e9
    exact ⟨by simpa [World.cell?, e] using c, by simp [World.frozen?, e]⟩
  have hz : (((w.alloc (.cells #[.int .i64 5, .int .i64 A, .int .i64 B, .int .i64 C, .string s, .string t] 45)).alloc (.cells #[.string s, .string t] 56)).drew).heap.size = w.heap.size + 2 := by simp [World.drew]
  have HZ : Hid ((((w.alloc (.cells #[.int .i64 5, .int .i64 A, .int .i64 B, .int .i64 C, .string s, .string t] 45)).alloc (.cells #[.string s, .string t] 56)).drew).heap.size = w.heap.size + 2) := hz
  have HFIN : Hid (∀ g cap w2, World.ownsRow w2 Wb 56 2 (.slice (some ⟨g, 0, none⟩) (np + 1) cap) (np + 1) (xp ++ [.string s, .string t]) → (((w.alloc (.cells #[.int .i64 5, .int .i64 A, .int .i64 B, .int .i64 C, .string s, .string t] 45)).alloc (.cells #[.string s, .string t] 56)).drew).grownBy w2 pv.ownBlock → KHas Wb (w2.setCell ⟨Wb, 9, none⟩ (.slice (some ⟨g, 0, none⟩) (np + 1) cap)) rr (N + 1) ∧ Below Wb w (w2.setCell ⟨Wb, 9, none⟩ (.slice (some ⟨g, 0, none⟩) (np + 1) cap)) ∧ Fr (· = 9) Wb w (w2.setCell ⟨Wb, 9, none⟩ (.slice (some ⟨g, 0, none⟩) (np + 1) cap))) := by
    intro g cap w2 ho hg
    have K3 := K2.grown (Below.refl _ _).drew
    have := K3.put9F (v := .slice (some ⟨g, 0, none⟩) (np + 1) cap) (w2 := w2) ho hg (by have := K.lp; omega)
    exact ⟨this.1, (hb0.mono (Nat.le_of_lt K.lt)).trans ((((Below.refl _ _).alloc (by have := K.lt; simp; omega) _).drew).trans this.2.1), (Fr.of_below (((((Below.refl _ _).alloc (Nat.le_refl _) _).alloc (by simp) _)).drew) K.lt).trans this.2.2⟩
  have hlp := K.lp
  have hlt := K.lt
  clear hz K K1 K2
  go_enter Tryz.func11, Tryz.ntmps11
  go_wp2_with fail
  go_region_law (refine step_append_lies _ rfl (.tmp 52) (.tmp 58) 32 rfl Wb 56 i0 (.agg #[.string ⟨#[]⟩, .string ⟨#[]⟩]) 2 32 Tryz.underlying32 hi hz0 hz1 hz2 rfl (by decide) pv np xp (by simp [Act.eval]) HO.out ⟨w.heap.size + 1, 0, none⟩ 1 1 [.string s, .string t] (by simp [Act.eval]) rfl HN.out H1.out (by decide) (by unfold maxLen; omega) (by omega) (by rw [HZ.out]; omega) (w.heap.size + 2) HZ.out ?_; intro g cap w2 hown2 hg2 hgg hlt2; obtain ⟨d9, e9⟩ := HK.out w2 hg2)
  all_goals
    go_wp2
    go_ret
    exact ⟨rfl, HFIN.out _ _ _ hown2 hg2⟩

end Go.Proofs.YtibofakbhgmhiabGreatDoor

namespace Go.Proofs.YtibofakbhgmhiabGreatDoor
open Go.RowKit

theorem cell_same {Wb j : Nat} {w : World} {cs : Array Value} {e : TypeId} (hblk : w.heap[Wb]? = some (.cells cs e (0, 0))) (hj : j < cs.size) (v : Value) : (w.setCell ⟨Wb, j, none⟩ v).cell? ⟨Wb, j, none⟩ = some v := by
  simp only [World.cell?, put_block hblk]
  simp [hj]
set_option maxHeartbeats 2000000 in
set_option maxRecDepth 100000 in
theorem lstep_num (Wb : Nat) (A B C : Int) (s t : ByteArray) (w : World) (rr : List (List Int)) (N : Nat) (K : KHas Wb w rr N) (h1 : -9223372036854775808 ≤ A) (h2 : A ≤ 9223372036854775807) :
    Calls Tryz.prog 11 #[.pointer (some ⟨Wb, 0, none⟩), opV 1 A B C s t] w fun e w' => e = .returned (.bool true) ∧ KHas Wb w' rr N ∧ Below Wb w w' ∧ Fr (· = pk A) Wb w w' ∧ w'.cell? ⟨Wb, pk A, none⟩ = some (.int .i64 B) := by
  obtain ⟨cs, ev, pv, rv, ne, np, xe, xp, xr, K⟩ := K
  have hb0 : Below w.heap.size w (w.alloc (.cells #[.int .i64 1, .int .i64 A, .int .i64 B, .int .i64 C, .string s, .string t] 45)) := (Below.refl _ _).alloc (Nat.le_refl _) _
  have K1 := K.grown hb0
  have hp := pk_lt A
  have hpk : Hid (∀ W, Calls Tryz.prog 19 #[.int .i64 A, .int .i64 8] W fun e w' => e = .returned (.int .i64 (pk A)) ∧ w' = W) := fun W => pick8 A W h1 h2
  generalize pk A = j at *
  obtain ⟨u, hu⟩ : ∃ u, cs[j]? = some u := ⟨cs[j]'(by have := K.size; omega), Array.getElem?_eq_getElem _⟩
  have cj := (K1.cell j).trans hu
  have fj := K1.frozen j
  have hj2 : (j : Int) < 8 := by omega
  have HFIN : Hid (KHas Wb (((w.setCell ⟨Wb, j, none⟩ (.int .i64 B)).alloc (.cells #[.int .i64 1, .int .i64 A, .int .i64 B, .int .i64 C, .string s, .string t] 45)).drew) rr N ∧ Below Wb w (((w.setCell ⟨Wb, j, none⟩ (.int .i64 B)).alloc (.cells #[.int .i64 1, .int .i64 A, .int .i64 B, .int .i64 C, .string s, .string t] 45)).drew) ∧ Fr (· = j) Wb w (((w.setCell ⟨Wb, j, none⟩ (.int .i64 B)).alloc (.cells #[.int .i64 1, .int .i64 A, .int .i64 B, .int .i64 C, .string s, .string t] 45)).drew) ∧ (((w.setCell ⟨Wb, j, none⟩ (.int .i64 B)).alloc (.cells #[.int .i64 1, .int .i64 A, .int .i64 B, .int .i64 C, .string s, .string t] 45)).drew).cell? ⟨Wb, j, none⟩ = some (.int .i64 B)) := by
    obtain ⟨hk, hb⟩ := K.putNum j hp (.int .i64 B)
    obtain ⟨cs', ev', pv', rv', ne', np', xe', xp', xr', K'⟩ := hk
    exact ⟨⟨cs', ev', pv', rv', ne', np', xe', xp', xr', K'.grown (((Below.refl _ _).alloc (Nat.le_refl _) _).drew)⟩, (hb.alloc (Nat.le_of_lt K'.lt) _).drew, (Fr.put (J := (· = j)) K.blk j rfl _).trans (Fr.of_below (((Below.refl _ _).alloc (Nat.le_refl _) _).drew) K'.lt), ((((Below.refl _ _).alloc (Nat.le_refl _) _).drew).cell (p := ⟨Wb, j, none⟩) K'.lt).trans (cell_same K.blk (by have s := K.size; omega) _)⟩
  have hlt := K.lt
  clear K K1 hu h1 h2
  go_enter Tryz.func11, Tryz.ntmps11
  go_wp2_with fail
  go_region_with (go_at_call 19; refine (hpk.out _).mono ?_; rintro e w' ⟨rfl, rfl⟩)
  all_goals
    go_wp2
    go_ret
    exact ⟨rfl, HFIN.out⟩
end Go.Proofs.YtibofakbhgmhiabGreatDoor

namespace Go.Proofs.YtibofakbhgmhiabGreatDoor
open Go.RowKit

theorem Tryz.infoEvent : (Tryz.prog.info? 64).map (fun i => (i.zero, i.size, i.bytes)) = some (some (.agg #[.int .i64 0, .int .i64 0, .int .i64 0]), 3, 24) := by kernel_rfl

set_option maxHeartbeats 2000000 in
set_option maxRecDepth 100000 in
theorem lstep_event (Wb : Nat) (A B C : Int) (s t : ByteArray) (w : World) (rr : List (List Int)) (N : Nat) (K : KHas Wb w rr N) (hN : N ≤ 1048576) :
    Calls Tryz.prog 11 #[.pointer (some ⟨Wb, 0, none⟩), opV 2 A B C s t] w fun e w' => e = .returned (.bool true) ∧ KHas Wb w' rr (N + 1) ∧ Below Wb w w' ∧ Fr (· = 8) Wb w w' := by
  obtain ⟨cs, ev, pv, rv, ne, np, xe, xp, xr, K⟩ := K
  obtain ⟨i0, hi, hz0, hz1, hz2⟩ := info_parts Tryz.infoEvent
  have hb0 : Below w.heap.size w (w.alloc (.cells #[.int .i64 2, .int .i64 A, .int .i64 B, .int .i64 C, .string s, .string t] 45)) := (Below.refl _ _).alloc (Nat.le_refl _) _
  have K1 := K.grown hb0
  have K2 := K1.grown ((Below.refl _ _).alloc (Nat.le_refl _) (.cells #[.int .i64 A, .int .i64 B, .int .i64 C] 64))
  have c9 := (K1.cell 8).trans K1.e8
  have f9 := K1.frozen 8
  have c9' := (K2.cell 8).trans K2.e8
  have f9' := K2.frozen 8
  have HO : Hid ((((w.alloc (.cells #[.int .i64 2, .int .i64 A, .int .i64 B, .int .i64 C, .string s, .string t] 45)).alloc (.cells #[.int .i64 A, .int .i64 B, .int .i64 C] 64)).drew).ownsRow Wb 64 3 ev ne xe) := K2.oe
  have HN : Hid (∀ (j : Nat) (u : Value), [Value.int .i64 A, .int .i64 B, .int .i64 C][j]? = some u → (((w.alloc (.cells #[.int .i64 2, .int .i64 A, .int .i64 B, .int .i64 C, .string s, .string t] 45)).alloc (.cells #[.int .i64 A, .int .i64 B, .int .i64 C] 64)).drew).cell? ((⟨w.heap.size + 1, 0, none⟩ : Addr).add j) = some u) := by
    intro j u hj
    have e : (⟨w.heap.size + 1, 0, none⟩ : Addr).add j = ⟨w.heap.size + 1, j, none⟩ := by unfold Addr.add; split <;> simp_all
    rw [e]
    show ((w.alloc _).alloc _).cell? _ = _
    rw [World.cell?_alloc_at _ _ _ _ (by simp)]
    rcases j with _ | _ | _ | j
    · simpa using hj
    · simpa using hj
    · simpa using hj
    · simp at hj
  have H1 : Hid (∀ u ∈ [Value.int .i64 A, .int .i64 B, .int .i64 C], u.oneCell' = true) := by
    intro u hu; simp at hu; rcases hu with rfl | rfl | rfl <;> rfl
  have HK : Hid (∀ w2, (((w.alloc (.cells #[.int .i64 2, .int .i64 A, .int .i64 B, .int .i64 C, .string s, .string t] 45)).alloc (.cells #[.int .i64 A, .int .i64 B, .int .i64 C] 64)).drew).grownBy w2 ev.ownBlock → w2.cell? ⟨Wb, 8, none⟩ = some ev ∧ w2.frozen? ⟨Wb, 8, none⟩ = false) := by
    intro w2 hg
    have e : w2.heap[Wb]? = some (.cells cs 43 (0, 0)) := by
      rw [hg.block Wb (K2.lt) (fun e => row_ne' K2.oe K2.blk (by decide) e.symm)]; exact K2.blk
    have c := K2.e8
    exact ⟨by simpa [World.cell?, e] using c, by simp [World.frozen?, e]⟩
  have hz : (((w.alloc (.cells #[.int .i64 2, .int .i64 A, .int .i64 B, .int .i64 C, .string s, .string t] 45)).alloc (.cells #[.int .i64 A, .int .i64 B, .int .i64 C] 64)).drew).heap.size = w.heap.size + 2 := by simp [World.drew]
  have HZ : Hid ((((w.alloc (.cells #[.int .i64 2, .int .i64 A, .int .i64 B, .int .i64 C, .string s, .string t] 45)).alloc (.cells #[.int .i64 A, .int .i64 B, .int .i64 C] 64)).drew).heap.size = w.heap.size + 2) := hz
  have HFIN : Hid (∀ g cap w2, World.ownsRow w2 Wb 64 3 (.slice (some ⟨g, 0, none⟩) (ne + 1) cap) (ne + 1) (xe ++ [.int .i64 A, .int .i64 B, .int .i64 C]) → (((w.alloc (.cells #[.int .i64 2, .int .i64 A, .int .i64 B, .int .i64 C, .string s, .string t] 45)).alloc (.cells #[.int .i64 A, .int .i64 B, .int .i64 C] 64)).drew).grownBy w2 ev.ownBlock → KHas Wb (w2.setCell ⟨Wb, 8, none⟩ (.slice (some ⟨g, 0, none⟩) (ne + 1) cap)) rr (N + 1) ∧ Below Wb w (w2.setCell ⟨Wb, 8, none⟩ (.slice (some ⟨g, 0, none⟩) (ne + 1) cap)) ∧ Fr (· = 8) Wb w (w2.setCell ⟨Wb, 8, none⟩ (.slice (some ⟨g, 0, none⟩) (ne + 1) cap))) := by
    intro g cap w2 ho hg
    have K3 := K2.grown (Below.refl _ _).drew
    have := K3.put8F (v := .slice (some ⟨g, 0, none⟩) (ne + 1) cap) (w2 := w2) ho hg (by have := K.le; omega)
    exact ⟨this.1, (hb0.mono (Nat.le_of_lt K.lt)).trans ((((Below.refl _ _).alloc (by have := K.lt; simp; omega) _).drew).trans this.2.1), (Fr.of_below (((((Below.refl _ _).alloc (Nat.le_refl _) _).alloc (by simp) _)).drew) K.lt).trans this.2.2⟩
  have hlp := K.le
  have hlt := K.lt
  clear hz K K1 K2
  go_enter Tryz.func11, Tryz.ntmps11
  go_wp2_with fail
  go_region_law (refine step_append_lies _ rfl (.tmp 24) (.tmp 32) 31 rfl Wb 64 i0 (.agg #[.int .i64 0, .int .i64 0, .int .i64 0]) 3 24 Tryz.underlying31 hi hz0 hz1 hz2 rfl (by decide) ev ne xe (by simp [Act.eval]) HO.out ⟨w.heap.size + 1, 0, none⟩ 1 1 [.int .i64 A, .int .i64 B, .int .i64 C] (by simp [Act.eval]) rfl HN.out H1.out (by decide) (by unfold maxLen; omega) (by omega) (by rw [HZ.out]; omega) (w.heap.size + 2) HZ.out ?_; intro g cap w2 hown2 hg2 hgg hlt2; obtain ⟨d9, e9⟩ := HK.out w2 hg2)
  all_goals
    go_wp2
    go_ret
    exact ⟨rfl, HFIN.out _ _ _ hown2 hg2⟩

end Go.Proofs.YtibofakbhgmhiabGreatDoor
