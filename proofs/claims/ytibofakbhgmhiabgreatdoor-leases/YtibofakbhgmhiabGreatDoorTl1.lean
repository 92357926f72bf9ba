import Derived.Test.YtibofakbhgmhiabGreatDoorYld
import Derived.Test.YtibofakbhgmhiabGreatDoorTrM
import Derived.Test.YtibofakbhgmhiabGreatDoorOrd
namespace Go.Proofs.YtibofakbhgmhiabGreatDoor
open Go.RowKit

theorem HpV.kp {B Hb Lb : Nat} {tv : Value} {w w' : World} {xs : List Hd} {P : Nat → Prop} (h : HpV B Hb Lb tv w xs) (hk : Kp P w w') (h1 : ¬ P Hb) (h2 : ¬ P Lb) (h3 : ∀ i, tv.ownBlock = some i → ¬ P i) : HpV B Hb Lb tv w' xs :=
  ⟨by rw [hk.block _ (lt_of_block h.blk) h1]; exact h.blk, by rw [hk.block _ (lt_of_block h.lss) h2]; exact h.lss, own_kp' h.own hk h3⟩
theorem YAt.kp {B Nb Lv Mb : Nat} {n : Int} {lv : Value} {w w' : World} {xs : Rn} {P : Nat → Prop} (h : YAt B Nb Lv Mb n lv w xs) (hk : Kp P w w') (h1 : ¬ P Nb) (h2 : ¬ P Lv) (h3 : ¬ P Mb) (h4 : ∀ i, lv.ownBlock = some i → ¬ P i) : YAt B Nb Lv Mb n lv w' xs :=
  ⟨by rw [hk.block _ (lt_of_block h.nb) h1]; exact h.nb, by rw [hk.block _ (lt_of_block h.lb) h2]; exact h.lb, by rw [hk.block _ (lt_of_block h.mb) h3]; exact h.mb, own_kp' h.own hk h4⟩
/-- the heap's blocks are none of the yield's, and none of the list's -/
theorem HpV.apart {B Hb Lb B' Nb Lv Mb : Nat} {n : Int} {tv lv : Value} {w : World} {xs : List Hd} {ys : Rn} (h : HpV B Hb Lb tv w xs) (y : YAt B' Nb Lv Mb n lv w ys) :
    (¬ (Hb = Lv ∨ lv.ownBlock = some Hb)) ∧ (¬ (Lb = Lv ∨ lv.ownBlock = some Lb)) ∧ (∀ i, tv.ownBlock = some i → ¬ (i = Lv ∨ lv.ownBlock = some i)) ∧
    (¬ (Nb = Hb ∨ tv.ownBlock = some Nb)) ∧ (¬ (Lv = Hb ∨ tv.ownBlock = some Lv)) ∧ (¬ (Mb = Hb ∨ tv.ownBlock = some Mb)) ∧ (∀ i, lv.ownBlock = some i → ¬ (i = Hb ∨ tv.ownBlock = some i)) := by
  have a1 : Hb ≠ Lv := by rintro rfl; have b := h.blk; rw [y.lb] at b; simp at b
  have a2 : Lb ≠ Lv := by rintro rfl; have b := h.lss; rw [y.lb] at b; simp at b
  have a3 : Nb ≠ Hb := by rintro rfl; have b := h.blk; rw [y.nb] at b; simp at b
  have a4 : Mb ≠ Hb := by rintro rfl; have b := h.blk; rw [y.mb] at b; simp at b
  have a5 := own_ne y.own h.blk (by decide)
  have a6 := own_ne y.own h.lss (by decide)
  have a7 := own_ne h.own y.lb (by decide)
  have a8 := own_ne h.own y.nb (by decide)
  have a9 := own_ne h.own y.mb (by decide)
  have aa : ∀ i, tv.ownBlock = some i → lv.ownBlock ≠ some i := by
    intro i hi
    rcases h.own.2 with ⟨rfl, _⟩ | ⟨g, cap, cur, rfl, _, hg, _⟩
    · simp [Value.ownBlock] at hi
    · simp only [Value.ownBlock, Option.some.injEq] at hi
      subst hi
      exact own_ne y.own hg (by decide)
  refine ⟨?_, ?_, ?_, ?_, ?_, ?_, ?_⟩
  · rintro (e | e); exact a1 e; exact a5 e
  · rintro (e | e); exact a2 e; exact a6 e
  · rintro i hi (rfl | e); exact a7 hi; exact aa i hi e
  · rintro (e | e); exact a3 e; exact a8 e
  · rintro (e | e); exact a1 e.symm; exact a7 e
  · rintro (e | e); exact a4 e; exact a9 e
  · rintro i hi (rfl | e); exact a5 hi; exact aa i e hi

/-- what a Pop has answered, and what stands in the heap behind it -/
def Popped (rs : List Rn) (tr : List Nat) (got : Rn) (ok : Bool) (x : Hd) (xs : List Hd) : Prop :=
  (ok = true ∧ Heads rs tr (x :: xs) ∧ Hp xs ∧ (∀ y ∈ xs, leP x y) ∧ Last tr got (x :: xs)) ∨ (ok = false ∧ Heads rs tr [] ∧ xs = [])

theorem heads_len {rs : List Rn} {tr : List Nat} {xs : List Hd} (h : Heads rs tr xs) : xs.length ≤ rs.length := by
  have h1 : (xs.map (fun x => x.r.toNat)).Nodup := by
    have e : xs.map Hd.r = (xs.map (fun x => x.r.toNat)).map (fun n : Nat => (n : Int)) := by
      rw [List.map_map]
      apply List.map_congr_left
      intro a ha
      obtain ⟨i, hi⟩ := h.ok a ha
      simp [hi.r_eq]
    have := h.nd
    rw [e] at this
    unfold List.Nodup at this ⊢
    rw [List.pairwise_map] at this
    exact this.imp (fun {a b} h e => h (by rw [e]))
  have h2 : ∀ a ∈ xs.map (fun x => x.r.toNat), a < rs.length := by
    intro a ha
    obtain ⟨x, hx, rfl⟩ := List.mem_map.1 ha
    obtain ⟨i, hi⟩ := h.ok x hx
    rw [hi.r_eq]
    obtain ⟨h1, _⟩ := hi
    simpa using h1
  have h3 : ∀ (n : Nat) (l : List Nat), l.Nodup → (∀ a ∈ l, a < n) → l.length ≤ n := by
    intro n
    induction n with
    | zero =>
      intro l _ hl
      cases l with
      | nil => exact Nat.le_refl _
      | cons a t => exact absurd (hl a (by simp)) (Nat.not_lt_zero _)
    | succ n ih =>
      intro l hn hl
      have q := ih (l.erase n) (hn.erase n) (fun a ha => by
        have h1 := hl a (List.mem_of_mem_erase ha)
        have h2 : a ≠ n := by rintro rfl; exact hn.not_mem_erase ha
        omega)
      have := List.length_erase (a := n) (l := l)
      split at this <;> omega
  have := h3 _ _ h1 h2
  simpa using this

theorem hpopS {B Hb Lb : Nat} {tv : Value} {w : World} {ys : List Hd} {rs : List Rn} {tr : List Nat} {got : Rn} (h : HpV B Hb Lb tv w ys) (hh : Heads rs tr ys) (hp : Hp ys) (hl : Last tr got ys) (hn : rs.length ≤ 1048576) :
    Calls Tryz.prog 233 #[.pointer (some ⟨Hb, 0, none⟩)] w fun e w' => ∃ ok k t r n xs tv', e = .returned (.tuple #[.agg #[.int .i64 k, .int .i64 t, .int .i64 r, .int .i64 n], .bool ok]) ∧ Popped rs tr got ok ⟨k, t, r, n⟩ xs ∧ HpV B Hb Lb tv' w' xs ∧ (∀ i, tv'.ownBlock = some i → tv.ownBlock = some i) ∧ Kp (fun i => i = Hb ∨ tv.ownBlock = some i) w w' := by
  rcases ys with _ | ⟨x, t⟩
  · refine (hpop_nil h).mono ?_
    rintro e w1 ⟨rfl, hb⟩
    exact ⟨false, 0, 0, 0, 0, [], tv, rfl, .inr ⟨rfl, hh, rfl⟩, h.below hb, fun _ e => e, Kp.of_below hb⟩
  · obtain ⟨g, cap, rfl, h1⟩ := h.at (by simp)
    have hlen := heads_len hh
    obtain ⟨p1, p2, p3⟩ := pop_hp x t hp
    refine (hpop h1 t.length (by simp) (by omega)).mono ?_
    rintro e w1 ⟨rfl, h2, k2⟩
    have hh2 : Heads rs tr (x :: sinkL (((x :: t).set 0 ((x :: t)[t.length]'(by simp))).take t.length) 0) := hh.perm (p2.cons x)
    refine ⟨true, x.K, x.T, x.r, x.n, _, _, rfl, .inl ⟨rfl, hh2, p1, fun y hy => p3 y (p2.mem_iff.1 hy), fun k hk hg y hy => hl k hk hg y ((p2.cons x).mem_iff.1 hy)⟩, h2.v, fun i hi => ?_, ?_⟩
    · simpa [Value.ownBlock] using hi
    · exact k2.weaken (fun i _ e => by rcases e with rfl | rfl; exact .inl rfl; exact .inr rfl)
end Go.Proofs.YtibofakbhgmhiabGreatDoor
