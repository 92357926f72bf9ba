import Derived.Test.YtibofakbhgmhiabGreatDoorRows
import Derived.Test.YtibofakbhgmhiabGreatDoorNum
import Derived.LaidLaws
import Derived.LaidHandle
import Derived.LaidMore
import Derived.Stop.Joined

namespace Go.Proofs.YtibofakbhgmhiabGreatDoor
open Go.ChangeShapes Go.WideShapes Go.RowKit

/-- what the list of variables gives of the sentinels that stand at its head -/
theorem laid_many {P : Program} {nm : String} {W : World} {ti tp te ts : TypeId} {ms : Array (String × TypeId)} {f : Field}
    (hi : P.underlying ti = some (.interface ms)) (hrow : ∀ u, P.typeName? 3 u = some nm → u = tp)
    (hp : P.underlying tp = some (.pointer te)) (he : P.underlying te = some (.struct #[f])) (hft : f.type = ts) (hfo : f.offset = 0) (hs : P.underlying ts = some .string) (hc : P.cellsOf te = 1) (hcs : P.cellsOf ts = 1) :
    ∀ (L : List (String × List UInt8 × Nat)) (r : List (String × DataW Unit)) (ps : List MemPlace),
      DataW.LaidVars P W (L.map (fun x => (x.1, DataW.iface nm (.ptr (.agg [.lit (.string x.2.1)])))) ++ r) ps → ps.Nodup →
      (∀ b off, MemPlace.cell b off ∈ ps → (∃ c t, W.heap[b]? = some (.cells c t (0, 0))) ∧ ∀ u v, W.cell? ⟨b, off, none⟩ = some (.iface u v) → Value.okWide P W .any 0 u v) →
      (∀ x ∈ L, P.globalNamed x.1 = some x.2.2 ∧ (P.globals[x.2.2]?).map (·.type) = some ti) →
      ∃ (q ps' : List MemPlace) (al : List Addr), DataW.LaidVars P W r q ∧ ps = ps' ++ q ∧ al.length = L.length ∧ al.Nodup ∧ (∀ a ∈ al, MemPlace.cell a.block a.off ∈ ps') ∧
        ∀ i (h1 : i < L.length) (h2 : i < al.length), W.cell? ⟨L[i].2.2, 0, none⟩ = some (.iface tp (.pointer (some al[i]))) ∧ (∃ s, W.cell? al[i] = some (.string s) ∧ s.data.toList = L[i].2.1) ∧ ∃ c t, W.heap[al[i].block]? = some (.cells c t (0, 0))
  | [], r, ps, h, _, _, _ => ⟨ps, [], [], h, rfl, rfl, List.nodup_nil, fun _ h => (by cases h), fun i h1 => absurd h1 (Nat.not_lt_zero _)⟩
  | x :: L, r, ps, h, hnd, hrows, hL => by
    obtain ⟨g0, t0, cs0, f0, p0, q0, hg0, ht0, hv0, hd0, hrest, e0⟩ := h
    obtain ⟨hx1, hx2⟩ := hL x (by simp)
    obtain rfl := Option.some.inj (hx1.symm.trans hg0)
    obtain rfl := Option.some.inj (hx2.symm.trans ht0)
    subst e0
    obtain ⟨l0⟩ := cs0
    have ok0 : ∀ u v, l0 = [.iface u v] → Value.okWide P W .any 0 u v := fun u v e => by
      subst e
      exact (hrows x.2.2 0 (by simp [MemPlace.row])).2 u v (by simpa using World.var?_cell hg0 hv0 0)
    obtain ⟨a0, s0, rfl, hc0, hs0, hz0, rfl⟩ := errorString_of_trod hi hrow hp he hft hfo hs hc hcs hd0 ok0
    obtain ⟨c0, t0, hb0⟩ := (hrows a0.block a0.off (by simp [MemPlace.row])).1
    have hndq : q0.Nodup := (List.nodup_append.1 hnd).2.1
    obtain ⟨q, ps', al, h1, h2, h3, h4, h5, h6⟩ := laid_many hi hrow hp he hft hfo hs hc hcs L r q0 hrest hndq
      (fun b off hm => hrows b off (by simp [hm])) (fun y hy => hL y (by simp [hy]))
    refine ⟨q, MemPlace.row ⟨x.2.2, 0, none⟩ 1 ++ MemPlace.row a0 1 ++ ps', a0 :: al, h1, ?_, by simp [h3], ?_, ?_, ?_⟩
    · rw [h2]; simp
    · refine List.nodup_cons.2 ⟨fun hm => ?_, h4⟩
      have hm2 := h5 a0 hm
      have hin : MemPlace.cell a0.block a0.off ∈ q0 := by rw [h2]; simp [hm2]
      have := (List.nodup_append.1 hnd).2.2 (MemPlace.cell a0.block a0.off) (by simp [MemPlace.row]) _ hin
      exact this rfl
    · intro a ha
      rcases List.mem_cons.1 ha with rfl | ha
      · simp [MemPlace.row]
      · simp [h5 a ha]
    · intro i g1 g2
      cases i with
      | zero => exact ⟨by simpa using World.var?_cell hg0 hv0 0, ⟨s0, hc0, hs0⟩, ⟨c0, t0, hb0⟩⟩
      | succ i => exact h6 i (by simpa using g1) (by simpa using g2)
end Go.Proofs.YtibofakbhgmhiabGreatDoor

namespace Go.Proofs.YtibofakbhgmhiabGreatDoor
open Go.ChangeShapes Go.WideShapes Go.RowKit

theorem Tryz.star : "*" ++ "errors.errorString" = "*errors.errorString" := by decide
theorem Tryz.rowES (u : TypeId) (h : Tryz.prog.typeName? 3 u = some "*errors.errorString") : u = 513 :=
  typeName_ptr_named (nm := "errors.errorString") (by rw [Tryz.star]; kernel_rfl) (by kernel_rfl) (by decide) u (by rw [Tryz.star]; exact h)
theorem Tryz.cellsESS : Tryz.prog.cellsOf 531 = 1 := by kernel_rfl
theorem Tryz.cellsStr : Tryz.prog.cellsOf 9 = 1 := by kernel_rfl
theorem Tryz.et : Tryz.prog.globalNamed "errors.errorType" = some 11 := by kernel_rfl
theorem Tryz.rt : (Tryz.prog.cutTypes.find? (·.1 == "internal/reflectlite.rtype")).map (·.2) = some 286 := by kernel_rfl
theorem Tryz.oneRow : ((List.range 543).filter fun t => Tryz.prog.rowNamed t [101, 114, 114, 111, 114]) = [70] := by kernel_rfl
theorem Tryz.size : Tryz.prog.types.size = 543 := by kernel_rfl

def sentL : List (String × List UInt8 × Nat) := [("mapreduce/mapreduce.ErrArg", [97, 110, 32, 97, 114, 103, 117, 109, 101, 110, 116, 32, 116, 104, 97, 116, 32, 109, 97, 121, 32, 110, 111, 116, 32, 98, 101], 0), ("mapreduce/mapreduce.ErrShort", [97, 32, 114, 101, 99, 111, 114, 100, 32, 116, 104, 97, 116, 32, 101, 110, 100, 115, 32, 116, 111, 111, 32, 101, 97, 114, 108, 121], 1), ("mapreduce/mapreduce.ErrSum", [97, 32, 114, 101, 99, 111, 114, 100, 32, 119, 104, 111, 115, 101, 32, 115, 117, 109, 32, 105, 115, 32, 119, 114, 111, 110, 103], 2), ("mapreduce/mapreduce.ErrInput", [97, 32, 108, 105, 110, 101, 32, 116, 104, 97, 116, 32, 116, 104, 101, 32, 106, 111, 98, 32, 99, 97, 110, 110, 111, 116, 32, 116, 97, 107, 101], 3), ("mapreduce/mapreduce.ErrFull", [110, 111, 32, 114, 111, 111, 109, 32, 105, 115, 32, 108, 101, 102, 116], 4), ("mapreduce/mapreduce.ErrUnknown", [116, 104, 101, 114, 101, 32, 105, 115, 32, 110, 111, 110, 101], 5), ("mapreduce/mapreduce.ErrStale", [105, 116, 32, 99, 111, 117, 110, 116, 115, 32, 110, 111, 32, 108, 111, 110, 103, 101, 114], 6), ("mapreduce/mapreduce.ErrWait", [110, 111, 116, 104, 105, 110, 103, 32, 105, 115, 32, 116, 111, 32, 98, 101, 32, 100, 111, 110, 101, 32, 106, 117, 115, 116, 32, 110, 111, 119], 7), ("mapreduce/mapreduce.ErrDone", [97, 108, 108, 32, 105, 115, 32, 100, 111, 110, 101], 8), ("mapreduce/mapreduce.ErrExhausted", [97, 32, 116, 97, 115, 107, 32, 104, 97, 115, 32, 98, 101, 101, 110, 32, 116, 114, 105, 101, 100, 32, 116, 111, 111, 32, 111, 102, 116, 101, 110], 9), ("mapreduce/mapreduce.ErrEnded", [116, 104, 101, 32, 101, 118, 101, 110, 116, 115, 32, 104, 97, 118, 101, 32, 101, 110, 100, 101, 100], 10)]
theorem sentL_globals : (sentL.all fun x => decide (Tryz.prog.globalNamed x.1 = some x.2.2) && decide ((Tryz.prog.globals[x.2.2]?).map (·.type) = some 70)) = true := by kernel_rfl
theorem sentL_sizes : (sentL.all fun x => decide (x.2.1.length ≠ 0) && decide (x.2.1.length ≤ 1000)) = true := by decide

def sentVars : List (String × DataW Unit) := sentL.map fun x => (x.1, DataW.iface "*errors.errorString" (.ptr (.agg [.lit (.string x.2.1)])))

/-- what the condition on the variables gives the walks -/
theorem sents_of {W : World} {r : List (String × DataW Unit)} {ps : List MemPlace} (h : DataW.LaidVars Tryz.prog W (sentVars ++ r) ps) (hnd : ps.Nodup)
    (hrows : ∀ b off, MemPlace.cell b off ∈ ps → (∃ c t, W.heap[b]? = some (.cells c t (0, 0))) ∧ ∀ u v, W.cell? ⟨b, off, none⟩ = some (.iface u v) → Value.okWide Tryz.prog W .any 0 u v)
    (hh : handlesMet Tryz.prog [("errors.errorType", Rows.laid_errors_errorType)] W) :
    ∃ q ps' a, DataW.LaidVars Tryz.prog W r q ∧ ps = ps' ++ q ∧ Sents W a := by
  obtain ⟨q, ps', al, h1, h2, h3, h4, _, h6⟩ := laid_many Tryz.underlying70 Tryz.rowES Tryz.underlying513 Tryz.underlying531 rfl rfl Tryz.underlying9 Tryz.cellsESS Tryz.cellsStr sentL r ps h hnd hrows
    (fun x hx => by
      have := List.all_eq_true.1 sentL_globals x hx
      simpa using this)
  have hl : al.length = 11 := h3
  obtain ⟨name, u, ty, e1, e2, e3, e4, e5⟩ := hh _ (List.mem_singleton.2 rfl)
  have en : name = [101, 114, 114, 111, 114] := (Option.some.inj e1).symm
  subst en
  obtain rfl := Option.some.inj (Tryz.rt.symm.trans e2)
  have hm : ty ∈ (List.range 543).filter fun t => Tryz.prog.rowNamed t [101, 114, 114, 111, 114] := List.mem_filter.2 ⟨List.mem_range.2 (by rw [← Tryz.size]; exact e3), e4⟩
  rw [Tryz.oneRow] at hm
  obtain rfl := List.mem_singleton.1 hm
  have hhd : typeHandle Tryz.prog 70 = .pointer (some ⟨19, 70, none⟩) := by kernel_rfl
  rw [hhd] at e5
  have key : ∀ i (hi : i < 11), W.cell? ⟨sentL[i].2.2, 0, none⟩ = some (.iface 513 (.pointer (some (al.getD i ⟨0, 0, none⟩)))) ∧ (∃ s, W.cell? (al.getD i ⟨0, 0, none⟩) = some (.string s) ∧ s.data.toList = sentL[i].2.1) ∧ ∃ c t, W.heap[(al.getD i ⟨0, 0, none⟩).block]? = some (.cells c t (0, 0)) := by
    intro i hi
    have := h6 i hi (by omega)
    have e : al.getD i ⟨0, 0, none⟩ = al[i]'(by omega) := by simp [List.getD, List.getElem?_eq_getElem (show i < al.length by omega)]
    rw [e]; exact this
  refine ⟨q, ps', fun i => al.getD i ⟨0, 0, none⟩, h1, h2, ?_⟩
  exact {
    c0 := (key 0 (by omega)).1
    c1 := (key 1 (by omega)).1
    c2 := (key 2 (by omega)).1
    c3 := (key 3 (by omega)).1
    c4 := (key 4 (by omega)).1
    c5 := (key 5 (by omega)).1
    c6 := (key 6 (by omega)).1
    c7 := (key 7 (by omega)).1
    c8 := (key 8 (by omega)).1
    c9 := (key 9 (by omega)).1
    c10 := (key 10 (by omega)).1
    et := by simpa using World.var?_cell Tryz.et e5 0
    blk := fun i hi => (key i hi).2.2
    str := fun i hi => by
      obtain ⟨s, hs, hz⟩ := (key i hi).2.1
      have hb := List.all_eq_true.1 sentL_sizes sentL[i] (List.getElem_mem _)
      rw [← hz] at hb
      refine ⟨s, hs, ?_, ?_⟩
      · have := (Bool.and_eq_true _ _ ▸ hb).1
        simpa using this
      · have := (Bool.and_eq_true _ _ ▸ hb).2
        simpa using this
    inj := fun i j hi hj he => by
      have ei : al.getD i ⟨0, 0, none⟩ = al[i]'(by omega) := by simp [List.getD, List.getElem?_eq_getElem (show i < al.length by omega)]
      have ej : al.getD j ⟨0, 0, none⟩ = al[j]'(by omega) := by simp [List.getD, List.getElem?_eq_getElem (show j < al.length by omega)]
      have he' : al[i]'(by omega) = al[j]'(by omega) := by rw [← ei, ← ej]; exact he
      exact (List.getElem_inj h4).1 he' }
end Go.Proofs.YtibofakbhgmhiabGreatDoor
