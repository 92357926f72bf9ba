import Derived.Test.YtibofakbhgmhiaaGreatDoorAppN
namespace Go.Proofs.YtibofakbhgmhiaaGreatDoor
open Go.RowKit Rd

theorem row_ne {w : World} {B : Nat} {v : Value} {n : Nat} {xs : List Value} {X : Nat} {c : Array Value} {t : TypeId} {fz : Nat × Nat} (h : w.ownsRow B 5 1 v n xs) (hX : w.heap[X]? = some (.cells c t fz)) (ht : t ≠ 5) : some X ≠ v.ownBlock := by
  intro e
  rcases h.2 with ⟨rfl, _⟩ | ⟨g, cap, cur, rfl, _, hg, _⟩
  · simp [Value.ownBlock] at e
  · simp [Value.ownBlock] at e
    subst e
    rw [hX] at hg
    simp at hg
    exact ht hg.2.1

theorem alloc_new (w : World) (o : Obj) : (w.alloc o).heap[w.heap.size]? = some o := by
  show (w.heap.push o)[w.heap.size]? = some o
  simp

theorem own_slice {w : World} {B : Nat} {e : TypeId} {size : Nat} {v : Value} {n : Nat} {xs : List Value} (h : w.ownsRow B e size v n xs) : ∃ a c, v = .slice a n c := by
  rcases h.2 with ⟨rfl, rfl⟩ | ⟨g, cap, cur, rfl, _⟩
  · exact ⟨none, 0, rfl⟩
  · exact ⟨_, _, rfl⟩

theorem own_tail {w : World} {B : Nat} {v : Value} (l bd : List UInt8) (h : w.ownsRow B 5 1 v (l ++ bd).length (bc (l ++ bd))) (hbl : 8 ≤ bd.length) :
    ∃ g cap, v = .slice (some ⟨g, 0, none⟩) (l ++ bd).length cap ∧ (l ++ bd).length ≤ cap ∧ ∀ j (hj : j < bd.length), w.cell? ⟨g, l.length + j, none⟩ = some (.int .u8 (bd[j].toNat)) := by
  have h' := h
  rcases h.2 with ⟨_, hn⟩ | ⟨g, cap, cur, rfl, _, _, hnc, _⟩
  · exfalso; simp at hn; simp [hn.2] at hbl
  · refine ⟨g, cap, rfl, hnc, fun j hj => ?_⟩
    have := h'.cells (g := g) rfl (l.length + j) (.int .u8 (bd[j].toNat)) (by
      rw [bc_append, List.getElem?_append_right (by simp [bc_length])]
      simp [bc, hj])
    have e : (⟨g, 0, none⟩ : Addr).add (l.length + j) = ⟨g, l.length + j, none⟩ := by unfold Addr.add; split <;> simp_all
    rwa [e] at this

theorem Below.grownRow {B : Nat} {a w w' : World} {e : TypeId} {size : Nat} {v : Value} {n : Nat} {xs : List Value} (h : Below B a w) (hown : w.ownsRow B e size v n xs) (hg : w.grownBy w' v.ownBlock) (hB : B ≤ w.heap.size) : Below B a w' :=
  h.grown hg hB (fun k hk => (hown.lt k hk).1)

set_option maxHeartbeats 1000000 in
set_option maxRecDepth 100000 in
theorem appendRecord (B : Nat) (v : Value) (l : List UInt8) (k x : ByteArray) (w : World) (hown : w.ownsRow B 5 1 v l.length (bc l)) (hB : B ≤ w.heap.size) (hG : 12 < B)
    (hl : l.length ≤ 35184372088832) (hk : k.size ≤ 4294967295) (hx : x.size ≤ 4294967295) (ht : Tab w) :
    Calls Tryz.prog 49 #[v, .agg #[.string k, .string x]] w fun e w' => ∃ v', e = .returned v' ∧ w'.ownsRow B 5 1 v' (l ++ recd crcN k.data.toList x.data.toList).length (bc (l ++ recd crcN k.data.toList x.data.toList)) ∧ Below B w w' := by
  obtain ⟨i0, hi, hz0, hz1, hz2⟩ := info_parts Tryz.infoU8
  obtain ⟨a0, cap0, rfl⟩ := own_slice hown
  go_enter Tryz.func49, Tryz.ntmps49
  go_wp2_with fail
  refine (appendNumber B _ l k.size _ (hown.alloc _) (by simp; omega) (by omega) (by omega)).mono ?_
  rintro e w2 ⟨v2, rfl, hown2, hg2⟩
  have hb2 : Below B w w2 := Below.grownRow ((Below.refl _ _).alloc hB _) (hown.alloc _) hg2 (by simp; omega)
  have hs2 := hg2.size
  have hX2 : w2.heap[w.heap.size]? = some (.cells #[.string k, .string x] 32 (0, 0)) := by
    rw [hg2.block _ (by simp) (fun e => by have := hown.lt _ e.symm; omega)]; exact alloc_new w _
  have c20 : w2.cell? ⟨w.heap.size, 0, none⟩ = some (.string k) := by simp [World.cell?, hX2]
  have c21 : w2.cell? ⟨w.heap.size, 1, none⟩ = some (.string x) := by simp [World.cell?, hX2]
  simp at hs2
  clear hg2
  go_wp2_with fail
  refine (appendNumber B _ _ x.size _ hown2 (by omega) (by simp [be4_length]; omega) (by omega)).mono ?_
  rintro e w3 ⟨v3, rfl, hown3, hg3⟩
  have hb3 : Below B w w3 := Below.grownRow hb2 hown2 hg3 (by omega)
  have hs3 := hg3.size
  have hX3 : w3.heap[w.heap.size]? = some (.cells #[.string k, .string x] 32 (0, 0)) := by
    rw [hg3.block _ (by omega) (row_ne hown2 hX2 (by decide))]; exact hX2
  have c30 : w3.cell? ⟨w.heap.size, 0, none⟩ = some (.string k) := by simp [World.cell?, hX3]
  have c31 : w3.cell? ⟨w.heap.size, 1, none⟩ = some (.string x) := by simp [World.cell?, hX3]
  clear hg3 c20 c21
  obtain ⟨l3, hl3⟩ : ∃ l3, l3 = l ++ be4 k.size ++ be4 x.size := ⟨_, rfl⟩
  rw [← hl3] at hown3
  have h3l : l3.length ≤ l.length + 8 := by rw [hl3]; simp [be4_length]
  have HL3 : Hid (l3 = l ++ be4 k.size ++ be4 x.size) := hl3
  clear hl3 hown2 hX2 hb2
  go_wp2_with (at_builtin; refine Lib.wpList_append_own_string _ rfl (.tmp 20) (.tmp 22) 101 9 rfl B 5 i0 Tryz.underlying101 Tryz.underlying9 hi hz0 hz1 hz2 _ _ _ rfl hown3 k rfl ?c1 ?c2 ?c3 ?_)
  case c1 => unfold maxLen; omega
  case c2 => omega
  case c3 => omega
  intro v4 w4 hown4 hg4 _
  have hb4 : Below B w w4 := Below.grownRow hb3 hown3 hg4 (by omega)
  have hs4 := hg4.size
  have hX4 : w4.heap[w.heap.size]? = some (.cells #[.string k, .string x] 32 (0, 0)) := by
    rw [hg4.block _ (by omega) (row_ne hown3 hX3 (by decide))]; exact hX3
  have c41 : w4.cell? ⟨w.heap.size, 1, none⟩ = some (.string x) := by simp [World.cell?, hX4]
  have hown4' : w4.ownsRow B 5 1 v4 (l3 ++ k.data.toList).length (bc (l3 ++ k.data.toList)) := by
    rw [bc_append, List.length_append]; exact hown4
  obtain ⟨l4, hl4⟩ : ∃ l4, l4 = l3 ++ k.data.toList := ⟨_, rfl⟩
  rw [← hl4] at hown4'
  have h4l : l4.length ≤ l3.length + k.size := by rw [hl4]; simp
  have HL4 : Hid (l4 = l3 ++ k.data.toList) := hl4
  clear hl4 hown4 hg4 hown3 hX3 hb3 c30 c31
  go_wp2_with (at_builtin; refine Lib.wpList_append_own_string _ rfl (.tmp 24) (.tmp 26) 101 9 rfl B 5 i0 Tryz.underlying101 Tryz.underlying9 hi hz0 hz1 hz2 _ _ _ rfl hown4' x rfl ?d1 ?d2 ?d3 ?_)
  case d1 => unfold maxLen; omega
  case d2 => omega
  case d3 => omega
  intro v5 w5 hown5 hg5 _
  have hb5 : Below B w w5 := Below.grownRow hb4 hown4' hg5 (by omega)
  have hs5 := hg5.size
  have hown5' : w5.ownsRow B 5 1 v5 (l4 ++ x.data.toList).length (bc (l4 ++ x.data.toList)) := by
    rw [bc_append, List.length_append]; exact hown5
  have e5 : l4 ++ x.data.toList = l ++ body k.data.toList x.data.toList := by
    rw [HL4.out, HL3.out]; simp [body]
  rw [e5] at hown5'
  have hbl := body_length k.data.toList x.data.toList
  obtain ⟨bd, hbd⟩ : ∃ bd, bd = body k.data.toList x.data.toList := ⟨_, rfl⟩
  rw [← hbd] at hown5' hbl
  have hbl1 : 8 ≤ bd.length := by rw [hbl]; omega
  have hbl2 : bd.length ≤ 8 + k.size + x.size := by rw [hbl]; simp
  have HB : Hid (bd = body k.data.toList x.data.toList) := hbd
  have ht5 := ht.below hb5 hG
  clear hbd hbl e5 hown5 hg5 hown4' hX4 hb4 c41 HL4 HL3
  obtain ⟨g, cap, hv5, hcap, hcells⟩ := own_tail l bd hown5' hbl1
  subst hv5
  have hsl : (l ++ bd).length = l.length + bd.length := List.length_append
  go_wp2_with fail
  refine (sumBytes bd g l.length _ _ (by omega) ht5 hcells).mono ?_
  rintro e w6 ⟨rfl, hw6⟩
  subst hw6
  clear hcells
  go_wp2_with fail
  rw [← hsl]
  refine (appendNumber B _ (l ++ bd) (crcN bd) _ hown5' (by omega) (by omega) (crcN_lt _)).mono ?_
  rintro e w7 ⟨v7, rfl, hown7, hg7⟩
  have hb7 : Below B w w7 := Below.grownRow hb5 hown5' hg7 (by omega)
  have e7 : l ++ bd ++ be4 (crcN bd) = l ++ recd crcN k.data.toList x.data.toList := by
    rw [HB.out, recd, List.append_assoc]
  rw [e7] at hown7
  clear hg7 hown5' hb5 ht5
  go_wp2
  go_ret
  exact ⟨v7, rfl, hown7, hb7⟩
end Go.Proofs.YtibofakbhgmhiaaGreatDoor
