import Derived.Test.YtibofakbhgmhiabGreatDoorHp5
import Derived.Deep.AppendLies
import Derived.Deep.RegionLaw
namespace Go.Proofs.YtibofakbhgmhiabGreatDoor
open Go.RowKit
theorem Tryz.infoHead : (Tryz.prog.info? 384).map (fun i => (i.zero, i.size, i.bytes)) = some (some (.agg #[.int .i64 0, .int .i64 0, .int .i64 0, .int .i64 0]), 4, 32) := by kernel_rfl

/-- the heap, its things' slice whatever it is (none too) -/
structure HpV (B Hb Lb : Nat) (tv : Value) (w : World) (xs : List Hd) : Prop where
  blk : w.heap[Hb]? = some (.cells #[.func (.func 282) #[] #[.pointer (some ⟨Lb, 0, none⟩)], tv] 425 (0, 0))
  lss : w.heap[Lb]? = some (.cells #[.func (.func 76) #[] #[]] 175 (0, 0))
  own : w.ownsRow B 384 4 tv xs.length (hc xs)
theorem HpAt.v {B Hb Lb g cap : Nat} {w : World} {xs : List Hd} (h : HpAt B Hb Lb g cap w xs) : HpV B Hb Lb (.slice (some ⟨g, 0, none⟩) xs.length cap) w xs := ⟨h.blk, h.lss, h.own⟩
theorem HpV.below {B Hb Lb : Nat} {tv : Value} {w w' : World} {xs : List Hd} (h : HpV B Hb Lb tv w xs) (hb : Below w.heap.size w w') : HpV B Hb Lb tv w' xs :=
  ⟨by rw [hb.block _ (lt_of_block h.blk)]; exact h.blk, by rw [hb.block _ (lt_of_block h.lss)]; exact h.lss, hown_below h.own hb⟩
theorem HpV.at {B Hb Lb : Nat} {tv : Value} {w : World} {xs : List Hd} (h : HpV B Hb Lb tv w xs) (hx : xs ≠ []) : ∃ g cap, tv = .slice (some ⟨g, 0, none⟩) xs.length cap ∧ HpAt B Hb Lb g cap w xs := by
  rcases h.own.2 with ⟨_, h0⟩ | ⟨g, cap, cur, hv, _⟩
  · exact absurd (List.length_eq_zero_iff.1 h0) hx
  · subst hv
    exact ⟨g, cap, rfl, h.blk, h.lss, h.own⟩
theorem HpV.ne {B Hb Lb : Nat} {tv : Value} {w : World} {xs : List Hd} (h : HpV B Hb Lb tv w xs) : tv.ownBlock ≠ some Hb ∧ tv.ownBlock ≠ some Lb := by
  rcases h.own.2 with ⟨rfl, _⟩ | ⟨g, cap, cur, rfl, _, hg, _⟩
  · simp [Value.ownBlock]
  · have b := h.blk
    have l := h.lss
    simp only [Value.ownBlock]
    constructor
    · intro e; cases e; rw [hg] at b; simp at b
    · intro e; cases e; rw [hg] at l; simp at l

theorem hd_new (w : World) (o : Obj) (k t r n : Int) (hs : (w.alloc o).heap.size = w.heap.size + 1) : ∀ (j : Nat) (u : Value), [Value.int .i64 k, .int .i64 t, .int .i64 r, .int .i64 n][j]? = some u → (((w.alloc o).alloc (.cells #[.int .i64 k, .int .i64 t, .int .i64 r, .int .i64 n] 384)).drew).cell? ((⟨w.heap.size + 1, 0, none⟩ : Addr).add j) = some u := by
  intro j u hj
  have e : (⟨w.heap.size + 1, 0, none⟩ : Addr).add j = ⟨(w.alloc o).heap.size, j, none⟩ := by rw [hs]; unfold Addr.add; split <;> simp_all
  rw [e]
  show ((w.alloc o).alloc _).cell? _ = _
  rw [World.cell?_alloc_at _ _ _ _ (by simp)]
  rcases j with _ | _ | _ | _ | j
  · simpa using hj
  · simpa using hj
  · simpa using hj
  · simpa using hj
  · simp at hj

set_option maxHeartbeats 4000000 in
set_option maxRecDepth 100000 in
theorem hpush {B Hb Lb : Nat} {tv : Value} {w : World} {xs : List Hd} (h : HpV B Hb Lb tv w xs) (k t r n : Int) (hn : xs.length + 1 ≤ 1099511627776) (hHB : B ≤ w.heap.size) :
    Calls Tryz.prog 234 #[.pointer (some ⟨Hb, 0, none⟩), .agg #[.int .i64 k, .int .i64 t, .int .i64 r, .int .i64 n]] w fun e w' => e = .returned (.tuple #[]) ∧ ∃ g cap, HpAt B Hb Lb g cap w' (riseL (xs ++ [⟨k, t, r, n⟩]) xs.length) ∧ (tv.ownBlock = some g ∨ w.heap.size ≤ g) ∧ Kp (fun i => i = Hb ∨ tv.ownBlock = some i) w w' := by
  obtain ⟨i0, hi, hz0, hz1, hz2⟩ := info_parts Tryz.infoHead
  have hb0 : Below w.heap.size w (((w.alloc (.cells #[.int .i64 k, .int .i64 t, .int .i64 r, .int .i64 n] 384)).alloc (.cells #[.int .i64 k, .int .i64 t, .int .i64 r, .int .i64 n] 384)).drew) := (((Below.refl _ _).alloc (Nat.le_refl _) _).alloc (by simp) _).drew
  have h2 := h.below hb0
  have hHl := lt_of_block h.blk
  have c1 : ((w.alloc (.cells #[.int .i64 k, .int .i64 t, .int .i64 r, .int .i64 n] 384)).alloc (.cells #[.int .i64 k, .int .i64 t, .int .i64 r, .int .i64 n] 384)).cell? ⟨Hb, 1, none⟩ = some tv := by
    show (((w.alloc (.cells #[.int .i64 k, .int .i64 t, .int .i64 r, .int .i64 n] 384)).alloc (.cells #[.int .i64 k, .int .i64 t, .int .i64 r, .int .i64 n] 384)).drew).cell? ⟨Hb, 1, none⟩ = some tv
    simp [World.cell?, h2.blk]
  have c1' : (w.alloc (.cells #[.int .i64 k, .int .i64 t, .int .i64 r, .int .i64 n] 384)).cell? ⟨Hb, 1, none⟩ = some tv := by
    rw [World.cell?_alloc_lt _ _ _ hHl]; simp [World.cell?, h.blk]
  have f1 : ((w.alloc (.cells #[.int .i64 k, .int .i64 t, .int .i64 r, .int .i64 n] 384)).alloc (.cells #[.int .i64 k, .int .i64 t, .int .i64 r, .int .i64 n] 384)).frozen? ⟨Hb, 1, none⟩ = false := by
    show (((w.alloc (.cells #[.int .i64 k, .int .i64 t, .int .i64 r, .int .i64 n] 384)).alloc (.cells #[.int .i64 k, .int .i64 t, .int .i64 r, .int .i64 n] 384)).drew).frozen? ⟨Hb, 1, none⟩ = false
    simp [World.frozen?, h2.blk]
  have HO : Hid ((((w.alloc (.cells #[.int .i64 k, .int .i64 t, .int .i64 r, .int .i64 n] 384)).alloc (.cells #[.int .i64 k, .int .i64 t, .int .i64 r, .int .i64 n] 384)).drew).ownsRow B 384 4 tv xs.length (hc xs)) := h2.own
  have HN := hd_new w (.cells #[.int .i64 k, .int .i64 t, .int .i64 r, .int .i64 n] 384) k t r n (by simp)
  have HN' : Hid (∀ (j : Nat) (u : Value), [Value.int .i64 k, .int .i64 t, .int .i64 r, .int .i64 n][j]? = some u → (((w.alloc (.cells #[.int .i64 k, .int .i64 t, .int .i64 r, .int .i64 n] 384)).alloc (.cells #[.int .i64 k, .int .i64 t, .int .i64 r, .int .i64 n] 384)).drew).cell? ((⟨w.heap.size + 1, 0, none⟩ : Addr).add j) = some u) := HN
  have H1 : Hid (∀ u ∈ [Value.int .i64 k, .int .i64 t, .int .i64 r, .int .i64 n], u.oneCell' = true) := by
    intro u hu; simp at hu; rcases hu with rfl | rfl | rfl | rfl <;> rfl
  have HZ : Hid ((((w.alloc (.cells #[.int .i64 k, .int .i64 t, .int .i64 r, .int .i64 n] 384)).alloc (.cells #[.int .i64 k, .int .i64 t, .int .i64 r, .int .i64 n] 384)).drew).heap.size = w.heap.size + 2) := by show _ = _; simp [World.drew]
  have HK : Hid (∀ g cap w2, World.ownsRow w2 B 384 4 (.slice (some ⟨g, 0, none⟩) (xs.length + 1) cap) (xs.length + 1) (hc xs ++ [.int .i64 k, .int .i64 t, .int .i64 r, .int .i64 n]) → (((w.alloc (.cells #[.int .i64 k, .int .i64 t, .int .i64 r, .int .i64 n] 384)).alloc (.cells #[.int .i64 k, .int .i64 t, .int .i64 r, .int .i64 n] 384)).drew).grownBy w2 tv.ownBlock → w2.cell? ⟨Hb, 1, none⟩ = some tv ∧ w2.frozen? ⟨Hb, 1, none⟩ = false ∧
      HpAt B Hb Lb g cap (w2.setCell ⟨Hb, 1, none⟩ (.slice (some ⟨g, 0, none⟩) (xs.length + 1) cap)) (xs ++ [⟨k, t, r, n⟩]) ∧ Kp (fun i => i = Hb ∨ tv.ownBlock = some i) w (w2.setCell ⟨Hb, 1, none⟩ (.slice (some ⟨g, 0, none⟩) (xs.length + 1) cap))) := by
    intro g cap w2 ho hg
    have eb : w2.heap[Hb]? = some (.cells #[.func (.func 282) #[] #[.pointer (some ⟨Lb, 0, none⟩)], tv] 425 (0, 0)) := by
      rw [hg.block Hb (lt_of_block h2.blk) (fun e => h2.ne.1 e.symm)]; exact h2.blk
    have el : w2.heap[Lb]? = some (.cells #[.func (.func 76) #[] #[]] 175 (0, 0)) := by
      rw [hg.block Lb (lt_of_block h2.lss) (fun e => h2.ne.2 e.symm)]; exact h2.lss
    have hgn : g ≠ Hb := by
      rintro rfl
      rcases ho.2 with ⟨hx, _⟩ | ⟨g', cap', cur, hv, _, hg', _⟩
      · cases hx
      · simp only [Value.slice.injEq, Option.some.injEq, Addr.mk.injEq] at hv
        obtain ⟨⟨rfl, _, _⟩, _, rfl⟩ := hv
        rw [hg'] at eb; simp at eb
    have hLH : Lb ≠ Hb := by rintro rfl; rw [el] at eb; simp at eb
    refine ⟨by simp [World.cell?, eb], by simp [World.frozen?, eb], ⟨?_, ?_, ?_⟩, ?_⟩
    · simp only [World.setCell, Array.getElem?_modify, if_true, eb]
      simp
    · exact blk_setCell el hLH
    · rw [List.length_append, hc_append]
      exact ownsRow_setCell_other ho (by simpa [Value.ownBlock] using hgn) _
    · refine Kp.setCell ?_ (fun _ => .inl rfl) _
      exact (Kp.of_below hb0).trans (Kp.of_grown (P := fun i => i = Hb ∨ tv.ownBlock = some i) hg (fun i hi => .inr hi)) (fun _ _ e => e)
  have hlen : xs.length ≤ 1099511627776 := by omega
  clear h2 HN hb0 h
  go_enter Tryz.func234, Tryz.ntmps234
  go_wp2_with fail
  go_region_law (refine step_append_lies _ rfl (.tmp 8) (.tmp 10) 387 rfl B 384 i0 (.agg #[.int .i64 0, .int .i64 0, .int .i64 0, .int .i64 0]) 4 32 Tryz.underlying387 hi hz0 hz1 hz2 rfl (by decide) tv xs.length (hc xs) (by simp [Act.eval]) HO.out ⟨w.heap.size + 1, 0, none⟩ 1 1 [.int .i64 k, .int .i64 t, .int .i64 r, .int .i64 n] (by simp [Act.eval]) rfl HN'.out H1.out (by decide) (by unfold maxLen; omega) (by omega) (by rw [HZ.out]; omega) (w.heap.size + 2) HZ.out ?_; intro g cap w2 hown2 hg2 hgg hlt2; obtain ⟨d1, e1, hAt, hBl⟩ := HK.out g cap w2 hown2 hg2)
  all_goals
    have c9 : (w2.setCell ⟨Hb, 1, none⟩ (.slice (some ⟨g, 0, none⟩) (xs.length + 1) cap)).cell? ⟨Hb, 1, none⟩ = some (.slice (some ⟨g, 0, none⟩) (xs.length + 1) cap) := by
      have := hAt.hcell.2.1
      simpa using this
    have HR : Hid (Calls Tryz.prog 284 #[.pointer (some ⟨Hb, 0, none⟩), .int .i64 xs.length] (w2.setCell ⟨Hb, 1, none⟩ (.slice (some ⟨g, 0, none⟩) (xs.length + 1) cap)) fun e w' => e = .returned (.tuple #[]) ∧ HpAt B Hb Lb g cap w' (riseL (xs ++ [⟨k, t, r, n⟩]) xs.length) ∧ Kp (fun i => i = Hb ∨ tv.ownBlock = some i) w w') := by
      refine (hrise hAt xs.length (by simp) (by simp; omega)).mono ?_
      rintro e w3 ⟨rfl, h3, hb3⟩
      exact ⟨rfl, h3, hBl.trans hb3 (fun i hi e => by subst e; rcases hgg with hgg | hgg; exact .inr hgg; omega)⟩
    clear hAt hBl
    go_wp2_with (go_at_call 284; refine HR.out.mono ?_; rintro e w3 ⟨rfl, h3, hb3⟩)
    go_end0
    exact ⟨rfl, g, cap, h3, by rcases hgg with hgg | hgg; exact .inl hgg; exact .inr (by omega), hb3⟩
end Go.Proofs.YtibofakbhgmhiabGreatDoor
