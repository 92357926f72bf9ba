import Derived.Test.YtibofakbhgmhiaaGreatDoorSts
import Derived.Lib.LaidTab
import Derived.Lay
namespace Go.Proofs.YtibofakbhgmhiaaGreatDoor
open Go.ChangeShapes Go.WideShapes Go.RowKit

theorem laidVars_perm {P : Program} {W : World} {L L' : List (String × DataW Unit)} (h : L.Perm L') : ∀ {ps : List MemPlace}, DataW.LaidVars P W L ps → ∃ ps', DataW.LaidVars P W L' ps' ∧ ps.Perm ps' := by
  induction h with
  | nil => exact fun h => ⟨_, h, List.Perm.refl _⟩
  | cons x _ ih =>
    rintro ps ⟨g, t, cs, fuel, p, q, hg, ht, hv, hd, hr, rfl⟩
    obtain ⟨q', hr', hp⟩ := ih hr
    exact ⟨_, ⟨g, t, cs, fuel, p, q', hg, ht, hv, hd, hr', rfl⟩, hp.append_left _⟩
  | swap x y l =>
    rintro ps ⟨g, t, cs, fuel, p, q, hg, ht, hv, hd, ⟨g2, t2, cs2, fuel2, p2, q2, hg2, ht2, hv2, hd2, hr2, rfl⟩, rfl⟩
    refine ⟨_, ⟨g2, t2, cs2, fuel2, p2, _, hg2, ht2, hv2, hd2, ⟨g, t, cs, fuel, p, q2, hg, ht, hv, hd, hr2, rfl⟩, rfl⟩, ?_⟩
    have key : ∀ a b c : List MemPlace, (a ++ (b ++ c)).Perm (b ++ (a ++ c)) := fun a b c => by
      rw [← List.append_assoc, ← List.append_assoc]
      exact List.perm_append_comm.append_right _
    exact key _ _ _
  | trans _ _ ih1 ih2 =>
    intro ps h
    obtain ⟨p1, h1, e1⟩ := ih1 h
    obtain ⟨p2, h2, e2⟩ := ih2 h1
    exact ⟨p2, h2, e1.trans e2⟩
theorem laidMet_perm {P : Program} {W : World} {L L' : List (String × DataW Unit)} (h : L.Perm L') (hm : laidMet P L W) : laidMet P L' W := by
  obtain ⟨ps, hv, hnd, hr⟩ := hm
  obtain ⟨ps', hv', hp⟩ := laidVars_perm h hv
  exact ⟨ps', hv', hp.nodup_iff.1 hnd, fun b off hm => hr b off (hp.mem_iff.2 hm)⟩
theorem perm_idx {α : Type} (d : α) (L : List α) (idx : List Nat) (h : idx.Perm (List.range L.length)) : L.Perm (idx.map fun i => L.getD i d) := by
  have e : L = (List.range L.length).map fun i => L.getD i d := by
    apply List.ext_getElem
    · simp
    · intro i h1 h2
      simp [List.getD, List.getElem?_eq_getElem h1]
  conv => lhs; rw [e]
  exact (h.symm).map _
end Go.Proofs.YtibofakbhgmhiaaGreatDoor
