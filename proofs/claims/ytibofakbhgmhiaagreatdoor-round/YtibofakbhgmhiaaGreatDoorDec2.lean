import Derived.Test.YtibofakbhgmhiaaGreatDoorDec
namespace Go.Proofs.YtibofakbhgmhiaaGreatDoor
open Go.RowKit Rd

def pc : PS → List Value
  | [] => []
  | p :: ps => .string p.1 :: .string p.2 :: pc ps
theorem pc_length : ∀ ps : PS, (pc ps).length = ps.length * 2
  | [] => rfl
  | p :: ps => by simp [pc, pc_length ps]; omega
theorem pc_append : ∀ a b : PS, pc (a ++ b) = pc a ++ pc b
  | [], b => rfl
  | p :: ps, b => by simp [pc, pc_append ps b]
theorem Tryz.infoPair : (Tryz.prog.info? 32).map (fun i => (i.zero, i.size, i.bytes)) = some (some (.agg #[.string ⟨#[]⟩, .string ⟨#[]⟩]), 2, 32) := by kernel_rfl

def DecOk (w w' : World) (t0 : ByteArray) (e : Ending) : Prop :=
  ∃ (pv : Value) (ps : PS), e = .returned (.tuple #[pv, .nilIface]) ∧ w'.ownsRow w.heap.size 32 2 pv ps.length (pc ps) ∧ t0.data.toList = enc crcN (bys ps) ∧ Short (bys ps)
def DecErr (a : Nat → Addr) (w w' : World) (t0 : ByteArray) (e : Ending) : Prop :=
  ∃ (ps : PS) (t : ByteArray) (c X : Nat), e = .returned (.tuple #[.slice none 0 0, .iface 125 (.pointer (some ⟨X, 0, none⟩))]) ∧ w'.cell? ⟨X, 0, none⟩ = some (.int .i64 ps.length) ∧ w'.cell? ⟨X, 1, none⟩ = some (.iface 513 (.pointer (some (a (c - 1))))) ∧
    (c = 2 ∨ c = 3) ∧ t0.data.toList = enc crcN (bys ps) ++ t.data.toList ∧ t.data.toList ≠ [] ∧ cut crcN t.data.toList = .error c ∧ Short (bys ps) ∧ w.heap.size ≤ X

theorem bys_len (ps : PS) : (bys ps).length = ps.length := by simp [bys]
theorem enc_ge : ∀ ps : PS, ps.length ≤ (enc crcN (bys ps)).length
  | [] => Nat.zero_le _
  | p :: ps => by
    have := enc_ge ps
    simp [bys, enc, recd_length] at this ⊢
    omega

theorem text_nil {s : ByteArray} (h : s.size = 0) : s.data.toList = [] := by
  apply List.length_eq_zero_iff.1
  rw [Array.length_toList]
  exact h
theorem text_none {s : ByteArray} (h : s.size = 0) : s.toList.isEmpty = true := by
  rw [ByteArray.toList_eq, text_nil h]; rfl
theorem text_some' {s : ByteArray} (h : ¬ s.size = 0) : s.toList.isEmpty = false := by
  rcases Nat.eq_zero_or_pos s.toList.length with g | g
  · exfalso; apply h
    rw [ByteArray.toList_eq] at g
    simpa using g
  · cases e : s.toList with
    | nil => rw [e] at g; simp at g
    | cons x xs => rfl

theorem own_below {w w' : World} {B : Nat} {e : TypeId} {size : Nat} {v : Value} {n : Nat} {xs : List Value} (h : w.ownsRow B e size v n xs) (hb : Below w.heap.size w w') : w'.ownsRow B e size v n xs := by
  refine h.kept (row := none) ⟨hb.os, hb.tape, hb.output, hb.size, fun k hk _ => hb.block k hk⟩ ?_
  cases hv : v.ownBlock <;> simp

set_option maxHeartbeats 1000000 in
set_option maxRecDepth 100000 in
theorem decode (a : Nat → Addr) (t0 : ByteArray) (w : World) (S : Sents w a) (hT : Tab w) (hG : 12 < w.heap.size) (htl : t0.size ≤ 1099511627776) :
    Calls Tryz.prog 126 #[.string t0] w fun e w' => (DecOk w w' t0 e ∨ DecErr a w w' t0 e) ∧ Below w.heap.size w w' := by
  obtain ⟨i0, hi, hz0, hz1, hz2⟩ := info_parts Tryz.infoPair
  go_enter Tryz.func126, Tryz.ntmps126
  go_wp2_with fail
  go_loopw [0, 4] (fun tv pv wr => ∃ (ps : PS) (t : ByteArray), tv = .string t ∧ t0.data.toList = enc crcN (bys ps) ++ t.data.toList ∧ Short (bys ps) ∧ wr.ownsRow w.heap.size 32 2 pv ps.length (pc ps) ∧ Below w.heap.size w wr) (fun tv _ _ => match tv with | .string t => t.size | _ => 0)
  case atStart => exact ⟨[], t0, rfl, rfl, by intro p hp; simp [bys] at hp, World.ownsRow_nil _ _ _ _, Below.refl _ _⟩
  case round =>
    obtain ⟨ps, t, rfl, ht0, hsh, hown, hb⟩ := hrel
    have hsz := hb.size
    have hl0 : t0.size = (enc crcN (bys ps)).length + t.size := by
      have := congrArg List.length ht0
      simpa using this
    have hge := enc_ge ps
    have HT0 : Hid (t0.data.toList = enc crcN (bys ps) ++ t.data.toList) := ht0
    have HSH : Hid (Short (bys ps)) := hsh
    have htz : t.size ≤ 1099511627776 := by omega
    have hpz : ps.length ≤ 1099511627776 := by omega
    clear ht0 hsh hl0 hge
    by_cases hte : t.size = 0
    · have hte' : t.toList.isEmpty = true := text_none hte
      have HTE : Hid (t.data.toList = []) := text_nil hte
      clear hte
      go_wp2
      go_ret2
      exact ⟨.inl ⟨_, ps, rfl, hown, by rw [HT0.out, HTE.out, List.append_nil], HSH.out⟩, hb⟩
    · have hte' : t.toList.isEmpty = false := text_some' hte
      have S1 := S.below hb
      have hT1 := hT.below hb hG
      cases hc : cut crcN t.data.toList with
      | error c =>
        obtain ⟨hc2, hcall⟩ := cut_err a t wr c S1 hT1 (by omega) (by omega) hc
        have HCALL : Hid (Calls Tryz.prog 195 #[.string t] wr fun e w' => e = .returned (.tuple #[.agg #[.string ⟨#[]⟩, .string ⟨#[]⟩], .string ⟨#[]⟩, .iface 513 (.pointer (some (a (c - 1))))]) ∧ Below wr.heap.size wr w') := hcall
        have HC : Hid (cut crcN t.data.toList = .error c) := hc
        have HC2 : Hid (c = 2 ∨ c = 3) := hc2
        clear hcall hc hc2
        obtain ⟨ap, cp, rfl⟩ := own_slice hown
        go_wp2_with fail
        refine HCALL.out.mono ?_
        rintro e w1 ⟨rfl, hb1⟩
        have hs1 := hb1.size
        go_wp2
        go_ret2
        refine ⟨.inr ⟨ps, t, c, w1.heap.size + 1, rfl, ?_, ?_, HC2.out, HT0.out, ?_, HC.out, HSH.out, by omega⟩, ?_⟩
        · rw [World.cell?_alloc_at _ _ _ _ (by simp)]; rfl
        · rw [World.cell?_alloc_at _ _ _ _ (by simp)]; rfl
        · intro h0; apply hte; have := congrArg List.length h0; rw [Array.length_toList] at this; exact this
        · exact ((hb.trans (hb1.mono hsz)).alloc (by omega) _).alloc (by simp; omega) _
      | ok x =>
        obtain ⟨⟨kl, vl⟩, rl⟩ := x
        obtain ⟨k, rfl⟩ : ∃ k : ByteArray, k.data.toList = kl := ⟨⟨kl.toArray⟩, by simp⟩
        obtain ⟨v, rfl⟩ : ∃ v : ByteArray, v.data.toList = vl := ⟨⟨vl.toArray⟩, by simp⟩
        obtain ⟨r, rfl⟩ : ∃ r : ByteArray, r.data.toList = rl := ⟨⟨rl.toArray⟩, by simp⟩
        have HCALL : Hid (Calls Tryz.prog 195 #[.string t] wr fun e w' => e = .returned (.tuple #[.agg #[.string k, .string v], .string r, .nilIface]) ∧ Below wr.heap.size wr w') := cut_ok t k v r wr hT1 (by omega) (by omega) hc
        obtain ⟨hrec, hk, hv⟩ := recd_cut crcN _ _ _ _ hc
        have hrz : r.size < t.size := by
          have := congrArg List.length hrec
          rw [List.length_append, recd_length] at this
          rw [Array.length_toList, Array.length_toList, Array.length_toList, Array.length_toList] at this
          show r.data.size < t.data.size
          omega
        have HT1 : Hid (t0.data.toList = enc crcN (bys (ps ++ [(k, v)])) ++ r.data.toList) := by
          show t0.data.toList = _
          rw [HT0.out, hrec]
          simp [bys, enc_append, enc]
        have HSH1 : Hid (Short (bys (ps ++ [(k, v)]))) := by
          show Short _
          intro p hp
          simp [bys] at hp
          rcases hp with ⟨p1, p2, hm, rfl⟩ | rfl
          · exact HSH.out _ (by simp [bys]; exact ⟨p1, p2, hm, rfl, rfl⟩)
          · exact ⟨hk, hv⟩
        clear hc hrec hk hv HT0 HSH
        go_wp2_with fail
        refine HCALL.out.mono ?_
        rintro e w1 ⟨rfl, hb1⟩
        have hs1 := hb1.size
        have hown1 : w1.ownsRow w.heap.size 32 2 u4 ps.length (pc ps) := own_below hown hb1
        clear HCALL hown
        go_wp2_with (at_builtin; refine wpList_append_own _ rfl (.tmp 24) (.tmp 26) 33 rfl w.heap.size 32 i0 (.agg #[.string ⟨#[]⟩, .string ⟨#[]⟩]) 2 32 Tryz.underlying33 hi hz0 hz1 hz2 rfl (by decide) _ _ _ rfl ((hown1.alloc _).alloc _) ⟨w1.heap.size + 1, 0, none⟩ 1 1 [.string k, .string v] rfl rfl ?c1 ?c2 ?c3 ?c4 ?c5 ?_)
        case c1 =>
          intro j u hj
          have e : (⟨w1.heap.size + 1, 0, none⟩ : Addr).add j = ⟨w1.heap.size + 1, j, none⟩ := by unfold Addr.add; split <;> simp_all
          rw [e, World.cell?_alloc_at _ _ _ _ (by simp)]
          rcases j with _ | _ | j
          · simpa using hj
          · simpa using hj
          · simp at hj
        case c2 => intro u hu; simp at hu; rcases hu with rfl | rfl <;> rfl
        case c3 => unfold maxLen; omega
        case c4 => omega
        case c5 => simp; omega
        intro v2 w2 hown2 hg2 _
        have hb2 : Below w.heap.size w w2 := ((((hb.trans (hb1.mono hsz)).alloc (by omega) _).alloc (by simp; omega) _).grown hg2 (by simp; omega) (fun k hk => (hown1.lt k hk).1))
        have hown3 : w2.ownsRow w.heap.size 32 2 v2 (ps ++ [(k, v)]).length (pc (ps ++ [(k, v)])) := by
          rw [pc_append, List.length_append]; exact hown2
        clear hown2 hg2 hown1
        go_wp2
        go_roundw
        case rel => exact ⟨ps ++ [(k, v)], r, rfl, HT1.out, HSH1.out, hown3, hb2⟩
        case measure => simpa using hrz
end Go.Proofs.YtibofakbhgmhiaaGreatDoor
