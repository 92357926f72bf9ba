import Derived.Test.YtibofakbhgmhiaaDoorRows
import Derived.Test.YtibofakbhgmhiaaDoorNum
import Derived.LaidLaws
import Derived.LaidHandle
import Derived.LaidMore
namespace Go.Proofs.YtibofakbhgmhiaaDoor
open Go.ChangeShapes Go.WideShapes Go.RowKit

/-- what the list of variables gives of the sentinels that stand at its head -/
theorem laid_many {P : Program} {nm : String} {W : World} {ti tp te ts : TypeId} {ms : Array (String × TypeId)} {f : Field}
    (hi : P.underlying ti = some (.interface ms)) (hrow : ∀ u, P.typeName? 3 u = some nm → u = tp)
    (hp : P.underlying tp = some (.pointer te)) (he : P.underlying te = some (.struct #[f])) (hft : f.type = ts) (hfo : f.offset = 0) (hs : P.underlying ts = some .string) (hc : P.cellsOf te = 1) (hcs : P.cellsOf ts = 1) :
    ∀ (L : List (String × List UInt8 × Nat)) (r : List (String × DataW Unit)) (ps : List MemPlace),
      DataW.LaidVars P W (L.map (fun x => (x.1, DataW.iface nm (.ptr (.agg [.lit (.string x.2.1)])))) ++ r) ps → ps.Nodup →
      (∀ b off, MemPlace.cell b off ∈ ps → (∃ c t, W.heap[b]? = some (.cells c t (0, 0))) ∧ ∀ u v, W.cell? ⟨b, off, none⟩ = some (.iface u v) → Value.okWide P W .any 0 u v) →
      (∀ x ∈ L, P.globalNamed x.1 = some x.2.2 ∧ (P.globals[x.2.2]?).map (·.type) = some ti) →
      ∃ (q ps' : List MemPlace) (al : List Addr), DataW.LaidVars P W r q ∧ ps = ps' ++ q ∧ al.length = L.length ∧ al.Nodup ∧ (∀ a ∈ al, MemPlace.cell a.block a.off ∈ ps') ∧
        ∀ i (h1 : i < L.length) (h2 : i < al.length), W.cell? ⟨L[i].2.2, 0, none⟩ = some (.iface tp (.pointer (some al[i]))) ∧ (∃ s, W.cell? al[i] = some (.string s) ∧ s.data.toList = L[i].2.1) ∧ ∃ c t, W.heap[al[i].block]? = some (.cells c t (0, 0))
  | [], r, ps, h, _, _, _ => ⟨ps, [], [], h, rfl, rfl, List.nodup_nil, fun _ h => (by cases h), fun i h1 => absurd h1 (Nat.not_lt_zero _)⟩
  | x :: L, r, ps, h, hnd, hrows, hL => by
    obtain ⟨g0, t0, cs0, f0, p0, q0, hg0, ht0, hv0, hd0, hrest, e0⟩ := h
    obtain ⟨hx1, hx2⟩ := hL x (by simp)
    obtain rfl := Option.some.inj (hx1.symm.trans hg0)
    obtain rfl := Option.some.inj (hx2.symm.trans ht0)
    subst e0
    obtain ⟨l0⟩ := cs0
    have ok0 : ∀ u v, l0 = [.iface u v] → Value.okWide P W .any 0 u v := fun u v e => by
      subst e
      exact (hrows x.2.2 0 (by simp [MemPlace.row])).2 u v (by simpa using World.var?_cell hg0 hv0 0)
    obtain ⟨a0, s0, rfl, hc0, hs0, hz0, rfl⟩ := errorString_of_trod hi hrow hp he hft hfo hs hc hcs hd0 ok0
    obtain ⟨c0, t0, hb0⟩ := (hrows a0.block a0.off (by simp [MemPlace.row])).1
    have hndq : q0.Nodup := (List.nodup_append.1 hnd).2.1
    obtain ⟨q, ps', al, h1, h2, h3, h4, h5, h6⟩ := laid_many hi hrow hp he hft hfo hs hc hcs L r q0 hrest hndq
      (fun b off hm => hrows b off (by simp [hm])) (fun y hy => hL y (by simp [hy]))
    refine ⟨q, MemPlace.row ⟨x.2.2, 0, none⟩ 1 ++ MemPlace.row a0 1 ++ ps', a0 :: al, h1, ?_, by simp [h3], ?_, ?_, ?_⟩
    · rw [h2]; simp
    · refine List.nodup_cons.2 ⟨fun hm => ?_, h4⟩
      have hm2 := h5 a0 hm
      have hin : MemPlace.cell a0.block a0.off ∈ q0 := by rw [h2]; simp [hm2]
      have := (List.nodup_append.1 hnd).2.2 (MemPlace.cell a0.block a0.off) (by simp [MemPlace.row]) _ hin
      exact this rfl
    · intro a ha
      rcases List.mem_cons.1 ha with rfl | ha
      · simp [MemPlace.row]
      · simp [h5 a ha]
    · intro i g1 g2
      cases i with
      | zero => exact ⟨by simpa using World.var?_cell hg0 hv0 0, ⟨s0, hc0, hs0⟩, ⟨c0, t0, hb0⟩⟩
      | succ i => exact h6 i (by simpa using g1) (by simpa using g2)
end Go.Proofs.YtibofakbhgmhiaaDoor
