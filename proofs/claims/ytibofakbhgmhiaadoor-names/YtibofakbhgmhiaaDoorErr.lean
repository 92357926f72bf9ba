import Derived.Test.YtibofakbhgmhiaaDoorTxt
namespace Go.Proofs.YtibofakbhgmhiaaDoor
open Go.RowKit Go.Extern.Stop Go.Stop Go.Extern

theorem tail_text (x : ByteArray) : (x ++ (⟨#[55]⟩ : ByteArray)).size ≠ 0 := by
  rw [ByteArray.size_append]
  show x.size + 1 ≠ 0
  omega

theorem Sents.alloc {w : World} {a : Nat → Addr} (S : Sents w a) (o : Obj) : Sents (w.alloc o) a :=
  S.below ((Below.refl _ _).alloc (Nat.le_refl _) o)

theorem Sents.drew {w : World} {a : Nat → Addr} (S : Sents w a) : Sents w.drew a := S.below ((Below.refl _ _).drew)

set_option maxHeartbeats 2000000 in
set_option maxRecDepth 100000 in
theorem faultError (a : Nat → Addr) (i pb : Nat) (hi : i < 11) (w : World) (S : Sents w a) (s : ByteArray) (hs : w.cell? (a i) = some (.string s)) (hsl : s.size ≤ 1000)
    (hp0 : w.cell? ⟨pb, 0, none⟩ = some (.int .i64 7)) (hp1 : w.cell? ⟨pb, 1, none⟩ = some (.iface 66 (.pointer (some (a i))))) :
    Calls Tryd.prog 33 #[.pointer (some ⟨pb, 0, none⟩)] w fun e w' => (∃ t : ByteArray, e = .returned (.string t) ∧ t.size ≠ 0) ∧ Below w.heap.size w w' := by
  have hpz : pb < w.heap.size := cell_lt (p := ⟨pb, 0, none⟩) hp0
  have hp0' : ∀ o1, (w.alloc o1).cell? ⟨pb, 0, none⟩ = some (.int .i64 7) := fun o1 => by
      rw [World.cell?_alloc_lt _ _ ⟨pb, 0, none⟩ hpz]; exact hp0
  go_enter Tryd.func33, Tryd.ntmps33
  go_wp2_with fail
  go_region_with (first
    | (go_at_call 35; refine (reasonText_es a i hi _ ?_ s ?_).mono ?_; exact S.drew; exact hs; rintro e w' ⟨rfl, rfl⟩)
    | (go_at_call 36; refine (itoa7 _).mono ?_; rintro e w' ⟨rfl, rfl⟩))
  all_goals (try go_wp2)
  all_goals
    go_ret
    refine ⟨⟨_, rfl, tail_text _⟩, ?_⟩
    repeat (first | exact Below.refl _ _ | refine Below.drew ?_ | refine below_drewN ?_ _ | refine Below.alloc ?_ (by simp) _)

end Go.Proofs.YtibofakbhgmhiaaDoor
