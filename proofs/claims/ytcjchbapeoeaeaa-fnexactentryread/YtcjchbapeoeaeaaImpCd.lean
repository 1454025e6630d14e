/- impl's EntryPack. -/
import Derived.Test.YtcjchbapeoeaeaaImpCc
import Derived.Deep.RegionHeld3
namespace Go.Proofs.Ytcjchbapeoeaeaa
open Go.ChangeShapes Go.WideShapes Go.ChangeAt Go.RowKit
set_option linter.unusedVariables false

/-- impl.EntryPack of what is not right. -/
theorem implPack_no (e : Ent) (hf : e.fits) (h : ¬ entP e) (w : World) :
    Calls Try.prog 11 #[e.val] w fun r w' => (∃ v, r = .returned (.tuple #[v, .bool false]) ∧ OwnB w' w.heap.size v []) ∧ Below w.heap.size w w' := by
  have C1 := dHide fun o => implEntOk_no e hf h (w.alloc o)
  obtain ⟨x, v, h0, d⟩ := e
  have hw0 : ∀ o, Below w.heap.size w (w.alloc o) := fun o => (Below.refl _ _).alloc (Nat.le_refl _) o
  clear hf h
  unfold Ent.val at *
  go_enter Try.func11, Try.ntmps11
  go_wp2_with fail
  refine (dUnhide C1 _).mono ?_
  rintro e w1 ⟨rfl, b1⟩
  have hb1 : Below w.heap.size w w1 := (hw0 _).trans (b1.mono (hw0 _).size)
  clear b1 C1 hw0
  go_wp2
  go_ret2
  exact ⟨⟨_, rfl, by simp, _, _, rfl, by simp, .inl rfl⟩, hb1⟩
/-- An array of bytes, as a row. -/
theorem room_own (w : World) (B : Nat) (cs : Array Value) (n : Nat) (T : TypeId) (hs : cs.size = n) (hn : n ≤ maxLen) (hB : B ≤ w.heap.size) : OwnX (w.alloc (.cells cs T)) B (.slice (some ⟨w.heap.size, 0, none⟩) 0 n) [] :=
  ⟨T, World.ownsRow_made w cs n hB hn (by omega)⟩
set_option maxHeartbeats 2000000 in
theorem implPack_yes (e : Ent) (hf : e.fits) (h : entP e) (w : World) :
    Calls Try.prog 11 #[e.val] w fun r w' => (∃ v, r = .returned (.tuple #[v, .bool true]) ∧ OwnB w' w.heap.size v (packB e.pl.toNat e.wave.toNat e.hole e.data.data.toList)) ∧ Below w.heap.size w w' := by
  have C1 := dHide fun o => implEntOk_yes e hf h (w.alloc o)
  obtain ⟨x, v, h0, d⟩ := e
  obtain ⟨hp, v0, v1, hv, hd, hh⟩ := h
  simp only at hp v0 v1 hv hd hh
  obtain ⟨p0, p1, p2, p3, p4⟩ := hp
  obtain ⟨n1, rfl⟩ := Int.eq_ofNat_of_zero_le (show 0 ≤ x by omega)
  obtain ⟨n2, rfl⟩ := Int.eq_ofNat_of_zero_le v0
  have C2 := dHide fun b W hX hB => addEntry_x w.heap.size b [] n1 n2 h0 d (by omega) (by omega) (by omega) W hX (by simp) hB
  have hw0 : ∀ o, Below w.heap.size w (w.alloc o) := fun o => (Below.refl _ _).alloc (Nat.le_refl _) o
  simp only [Int.toNat_natCast]
  clear hv hh hf
  unfold Ent.val at *
  go_enter Try.func11, Try.ntmps11
  go_wp2_with fail
  have F0 := Four.new w (.int .i64 (n1 : Int)) (.int .i64 (n2 : Int)) (.bool h0) (.string d) 25
  refine (dUnhide C1 _).mono ?_
  rintro e w1 ⟨rfl, b1⟩
  have F1 := F0.kept b1
  have hb1 : Below w.heap.size w w1 := (hw0 _).trans (b1.mono (hw0 _).size)
  have HF1 := dHide F1
  clear b1 C1 hw0 F0 F1
  go_wp2
  generalize hcs : (#[Value.int IntKind.u8 0, Value.int IntKind.u8 0, Value.int IntKind.u8 0, Value.int IntKind.u8 0, Value.int IntKind.u8 0, Value.int IntKind.u8 0, Value.int IntKind.u8 0, Value.int IntKind.u8 0, Value.int IntKind.u8 0, Value.int IntKind.u8 0, Value.int IntKind.u8 0, Value.int IntKind.u8 0, Value.int IntKind.u8 0, Value.int IntKind.u8 0, Value.int IntKind.u8 0, Value.int IntKind.u8 0, Value.int IntKind.u8 0, Value.int IntKind.u8 0, Value.int IntKind.u8 0, Value.int IntKind.u8 0, Value.int IntKind.u8 0, Value.int IntKind.u8 0, Value.int IntKind.u8 0, Value.int IntKind.u8 0, Value.int IntKind.u8 0, Value.int IntKind.u8 0, Value.int IntKind.u8 0, Value.int IntKind.u8 0, Value.int IntKind.u8 0, Value.int IntKind.u8 0, Value.int IntKind.u8 0, Value.int IntKind.u8 0, Value.int IntKind.u8 0, Value.int IntKind.u8 0, Value.int IntKind.u8 0, Value.int IntKind.u8 0, Value.int IntKind.u8 0, Value.int IntKind.u8 0, Value.int IntKind.u8 0, Value.int IntKind.u8 0, Value.int IntKind.u8 0, Value.int IntKind.u8 0, Value.int IntKind.u8 0, Value.int IntKind.u8 0, Value.int IntKind.u8 0, Value.int IntKind.u8 0, Value.int IntKind.u8 0, Value.int IntKind.u8 0, Value.int IntKind.u8 0] : Array Value) = cs
  have hsz : cs.size = 49 := by rw [← hcs]; rfl
  clear hcs
  have X2 := dHide (room_own w1 w.heap.size cs 49 50 hsz (by decide) hb1.size)
  have b2 : Below w1.heap.size w1 (w1.alloc (.cells cs 50)) := (Below.refl _ _).alloc (Nat.le_refl _) _
  have F2 := (dUnhide HF1).kept b2
  have hb2 := belowThen hb1 b2
  have hlt1 : w.heap.size < w1.heap.size := dCell_lt (dUnhide HF1).1
  have hlt2 := (dUnhide X2).lt
  clear b2 HF1 hb1 hsz
  generalize w1.alloc (Obj.cells cs 50) = w2 at *
  obtain ⟨k0, k1, k2, k3⟩ := F2
  go_region_held3 (fun W => W.cell? ⟨w.heap.size, 0, none⟩ = some (.int .i64 n1) ∧ W.cell? ⟨w.heap.size, 1, none⟩ = some (.int .i64 n2) ∧ W.cell? ⟨w.heap.size, 2, none⟩ = some (.bool h0) ∧ W.cell? ⟨w.heap.size, 3, none⟩ = some (.string d)) (go_keep)
    (first
      | (go_at_call 31; refine (dUnhide C2 _ _ ((dUnhide X2).kept (Below.refl _ _).drew) hb2.size).mono ?_; rintro e w3 ⟨v3, rfl, X3, o3⟩; have F3 := (Four.kept (w := w2) ⟨k0, k1, k2, k3⟩ (Below.refl _ _).drew).onto o3 (fun h => by simp only [Value.ownBlock, Option.some.injEq] at h; omega); obtain ⟨q0, q1, q2, q3⟩ := F3))
  have hb3 := o3.below (fun k hk => (hlt2 k hk).1) hb2.drew hb2.size
  have X4 := dHide X3.own
  clear k0 k1 k2 k3 q0 q1 q2 q3 X2 X3 o3 C2 hb2 hlt2
  go_wp2
  go_ret2
  exact ⟨⟨_, rfl, dUnhide X4⟩, hb3⟩
end Go.Proofs.Ytcjchbapeoeaeaa
