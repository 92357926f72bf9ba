import Derived.Test.YtibofakbhgmhiaaGreatDoorDec2
namespace Go.Proofs.YtibofakbhgmhiaaGreatDoor
open Go.RowKit Rd

theorem number_nil (w : World) : Calls Tryz.prog 29 #[.nilIface] w fun e w' => e = .returned (.tuple #[.int .i64 0, .int .i64 (-1)]) ∧ w' = w := by
  go_enter Tryz.func29, Tryz.ntmps29
  go_wp2
  go_ret2
  exact ⟨rfl, rfl⟩

def PDecOk (w w' : World) (t0 : ByteArray) (e : Ending) : Prop :=
  ∃ (pv : Value) (ps : PS), e = .returned (.tuple #[pv, .int .i64 0, .int .i64 (-1)]) ∧ w'.ownsRow w.heap.size 32 2 pv ps.length (pc ps) ∧ t0.data.toList = enc crcN (bys ps) ∧ Short (bys ps)
def PDecErr (t0 : ByteArray) (e : Ending) : Prop :=
  ∃ (ps : PS) (t : ByteArray) (c : Nat), e = .returned (.tuple #[.slice none 0 0, .int .i64 c, .int .i64 ps.length]) ∧
    (c = 2 ∨ c = 3) ∧ t0.data.toList = enc crcN (bys ps) ++ t.data.toList ∧ t.data.toList ≠ [] ∧ cut crcN t.data.toList = .error c ∧ Short (bys ps)

set_option maxHeartbeats 1000000 in
set_option maxRecDepth 100000 in
theorem pdecode (a : Nat → Addr) (t0 : ByteArray) (w : World) (S : Sents w a) (hT : Tab w) (hG : 12 < w.heap.size) (htl : t0.size ≤ 1099511627776) :
    Calls Tryz.prog 61 #[.string t0] w fun e w' => (PDecOk w w' t0 e ∨ PDecErr t0 e) ∧ Below w.heap.size w w' := by
  go_enter Tryz.func61, Tryz.ntmps61
  go_wp2_with fail
  refine (decode a t0 _ S hT hG htl).mono ?_
  rintro e w1 ⟨h | h, hb1⟩
  · obtain ⟨pv, ps, rfl, hown, hps⟩ := h
    go_wp2_with fail
    refine (number_nil _).mono ?_
    rintro e w2 ⟨rfl, hw2⟩
    subst hw2
    go_wp2
    go_ret3
    exact ⟨.inl ⟨pv, ps, rfl, hown, hps⟩, hb1⟩
  · obtain ⟨ps, t, c, X, rfl, q0, q1, hc, hrest⟩ := h
    have hs1 := hb1.size
    have S1 := S.below hb1
    have hcc : ((c - 1 : Nat) : Int) + 1 = (c : Int) := by omega
    have HR : Hid ((c = 2 ∨ c = 3) ∧ t0.data.toList = enc crcN (bys ps) ++ t.data.toList ∧ t.data.toList ≠ [] ∧ cut crcN t.data.toList = .error c ∧ Short (bys ps)) := ⟨hc, hrest.1, hrest.2.1, hrest.2.2.1, hrest.2.2.2.1⟩
    have hi : c - 1 < 11 := by omega
    clear hrest hc
    go_wp2_with fail
    refine (number_fault a (c - 1) X ps.length hi _ S1 q0 q1).mono ?_
    rw [hcc]
    rintro e w2 ⟨rfl, hb2⟩
    clear hcc
    go_wp2
    go_ret3
    exact ⟨.inr ⟨ps, t, c, rfl, HR.out⟩, hb1.trans (hb2.mono hs1)⟩
end Go.Proofs.YtibofakbhgmhiaaGreatDoor
