/- Rows of stores that were marked, looked at as the exact laws do. -/
import Derived.Test.YtaamipmlalplbaaUsB
namespace Go.Proofs.Ytaamipmlalplbaa
open Go.ChangeShapes Go.WideShapes Go.ChangeAt Go.RowKit
set_option linter.unusedVariables false
set_option linter.unusedSimpArgs false
set_option maxRecDepth 100000

theorem mkStoreS_len (k0 : Nat) (ms : List St) : (mkStoreS k0 ms).length = ms.length := by simp [mkStoreS]
theorem mkStoreS_at (k0 : Nat) (ms : List St) (i : Nat) (h : i < ms.length) (h' : i < (mkStoreS k0 ms).length) : (mkStoreS k0 ms)[i] = mkSt (k0 + cntStoreS (ms.take i)) ms[i] := by
  simp only [mkStoreS, List.getElem_map, List.getElem_range]
  rw [List.getD_eq_getElem?_getD, List.getElem?_eq_getElem h]
  rfl
set_option maxHeartbeats 4000000 in
theorem heldStoreS_ (v : Value) (ms : List St) (k0 : Nat) (w : World) (hk : k0 ≤ 134217728) (hl : cntStoreS ms ≤ 134217728) (h : RdStoreS v (mkStoreS k0 ms) w) :
    Calls Try.prog 35 #[v, .int .i64 (k0 : Int)] w fun e w' => e = .returned (.int .i64 ((k0 + cntStoreS ms : Nat) : Int)) ∧ Below w.heap.size w w' := by
  obtain ⟨rs, hm, hr, hn⟩ := h
  have hlr : rs.length = ms.length := by rw [← List.length_map (f := Ps.m), hm, mkStoreS_len]
  have HE : Hid (∀ k (hk : k < rs.length) (hk' : k < ms.length), rs[k].m = mkSt (k0 + cntStoreS (ms.take k)) ms[k]) := fun k hk hk' => by
    have e : (rs.map Ps.m)[k]'(by simpa using hk) = (mkStoreS k0 ms)[k]'(by rw [mkStoreS_len]; exact hk') := by simp only [hm]
    rw [List.getElem_map, mkStoreS_at k0 ms k hk'] at e
    exact e
  have HC : Hid (∀ k (hk : k < ms.length), cntStoreS (ms.take (k + 1)) = cntStoreS (ms.take k) + cntStore ms[k] + 1 ∧ cntStoreS (ms.take (k + 1)) ≤ 134217728) := fun k hk => by
    have h2 := cntStoreS_le' ms (k + 1)
    exact ⟨cntStoreS_take ms k hk, by omega⟩
  have hcn : Hid (cntStoreS (ms.take rs.length) = cntStoreS ms) := by rw [Hid, List.take_of_length_le (by omega)]
  have HL := dHide hlr
  have HV := dHide fun W (hb : Below w.heap.size w W) => hr.below hb
  have HN := dHide fun W (hb : Below w.heap.size w W) k (hk : k < rs.length) => (hn _ (List.getElem_mem hk)).below hb
  have hl0 := hr.1
  obtain ⟨-, a, cap, rfl, -, -⟩ := hr
  clear hn hm hlr hl
  go_enter Try.func35, Try.ntmps35
  go_wp2
  go_loopw [5, 1] (fun x y wr => ∃ (k K : Nat), x = .int .i64 (k : Int) ∧ y = .int .i64 (K : Int) ∧ k ≤ rs.length ∧ K ≤ 268435456 ∧ Hid (K = k0 + cntStoreS (ms.take k)) ∧ Below w.heap.size w wr) (fun x _ _ => rs.length - (intOf x).toNat)
  case atStart => exact ⟨0, k0, rfl, rfl, Nat.zero_le _, by omega, rfl, Below.refl _ _⟩
  case round =>
    obtain ⟨k, K, rfl, rfl, hkk, hKb, hK, hb⟩ := hrel
    by_cases hlt : (k : Int) < (rs.length : Int)
    · have hkl : k < rs.length := by omega
      have hkm : k < ms.length := by have := dUnhide HL; omega
      obtain ⟨s1, s2⟩ := dUnhide HC k hkm
      have eM := dUnhide HE k hkl hkm
      rw [← dUnhide hK] at eM
      obtain ⟨b, off, rfl, he⟩ := (dUnhide HV _ hb).ps hkl
      have hck := he k hkl
      have hcc : cntStore ms[k] = cntEntryS ms[k].kept + cntEntryS ms[k].late := rfl
      have hK2 : Hid (K + cntEntryS ms[k].kept + cntEntryS ms[k].late + 1 = k0 + cntStoreS (ms.take (k + 1))) := by rw [Hid, s1, hcc, dUnhide hK]; omega
      have hKb2 : K + cntEntryS ms[k].kept + cntEntryS ms[k].late + 1 ≤ 268435456 := by rw [dUnhide hK2]; omega
      have HR := dHide fun W (hb : Below w.heap.size w W) => (dUnhide HN W hb k hkl)
      rw [eM] at HR
      unfold PsAt at hck
      rw [eM] at hck
      generalize ms[k] = m at *
      have C1 := dHide fun W (hb : Below w.heap.size w W) => heldEntryS_ (.slice rs[k].ka (mkEntryS K m.kept).length rs[k].kc) m.kept K W (by omega) (by omega) (by
        obtain ⟨kv, lv, e, h1, h2⟩ := dUnhide HR W hb
        simp [psVal, eM] at e
        obtain ⟨rfl, rfl⟩ := e
        exact h1)
      have C2 := dHide fun W (hb : Below w.heap.size w W) => heldEntryS_ (.slice rs[k].la (mkEntryS (K + cntEntryS m.kept) m.late).length rs[k].lc) m.late (K + cntEntryS m.kept) W (by omega) (by omega) (by
        obtain ⟨kv, lv, e, h1, h2⟩ := dUnhide HR W hb
        simp [psVal, eM] at e
        obtain ⟨rfl, rfl⟩ := e
        exact h2)
      have hck' : wr.cell? ⟨b, off + k * 3, none⟩ = some (.slice rs[k].ka (mkEntryS K m.kept).length rs[k].kc) ∧ wr.cell? ⟨b, off + k * 3 + 1, none⟩ = some (.slice rs[k].la (mkEntryS (K + cntEntryS m.kept) m.late).length rs[k].lc) ∧ wr.cell? ⟨b, off + k * 3 + 2, none⟩ = some (.int .i64 ((K + cntEntryS m.kept + cntEntryS m.late : Nat) : Int)) := hck
      generalize rs[k].ka = ya at *
      generalize rs[k].kc = yc at *
      generalize rs[k].la = za at *
      generalize rs[k].lc = zc at *
      generalize (mkEntryS K m.kept).length = n1 at *
      generalize (mkEntryS (K + cntEntryS m.kept) m.late).length = n2 at *
      clear hck HR eM s1 s2 hcc he
      obtain ⟨c0, c1, c2⟩ := hck'
      have HCC : Hid (∀ W, Below wr.heap.size wr W → W.cell? ⟨b, off + k * 3 + 1, none⟩ = some (.slice za n2 zc) ∧ W.cell? ⟨b, off + k * 3 + 2, none⟩ = some (.int .i64 ((K + cntEntryS m.kept + cntEntryS m.late : Nat) : Int))) := fun W hB =>
        ⟨(hB.cell (p := ⟨b, off + k * 3 + 1, none⟩) (dCell_lt c1)).trans c1, (hB.cell (p := ⟨b, off + k * 3 + 2, none⟩) (dCell_lt c2)).trans c2⟩
      have u1 : ¬ ((K + cntEntryS m.kept : Nat) : Int) < 0 := by omega
      have u2 : ¬ ((K + cntEntryS m.kept + cntEntryS m.late : Nat) : Int) < 0 := by omega
      generalize cntEntryS m.kept = p1 at *
      generalize cntEntryS m.late = p2 at *
      clear c1 c2
      go_wp2_with fail
      refine (dUnhide C1 _ hb).mono ?_
      rintro r w1 ⟨rfl, b1⟩
      have hb1 := belowThen hb b1
      obtain ⟨d1, d2⟩ := dUnhide HCC _ b1
      clear C1 c0
      generalize K + p1 = q1 at *
      go_wp2_with fail
      refine (dUnhide C2 _ hb1).mono ?_
      rintro r w2 ⟨rfl, b2⟩
      have hb2 := belowThen hb1 b2
      obtain ⟨g1, g2⟩ := dUnhide HCC _ (belowThen b1 b2)
      clear C2 d1 d2 b1 b2 HCC
      have hq : q1 + p2 + 1 ≤ 268435456 := hKb2
      generalize q1 + p2 = q2 at *
      go_wp2
      go_roundw
      case rel => exact ⟨k + 1, q2 + 1, by go_num, by go_num, by omega, hq, hK2, hb2⟩
      case measure => simp [intOf]; omega
    · have e1 : k = rs.length := by omega
      subst e1
      have e2 : Hid ((K : Int) = ((k0 + cntStoreS ms : Nat) : Int)) := by rw [Hid, dUnhide hK, dUnhide hcn]
      clear hK hcn HC HE HV HN
      go_wp2
      go_ret
      exact ⟨by have e := dUnhide e2; simp only [Int.natCast_add] at e; simp [e], hb⟩
end Go.Proofs.Ytaamipmlalplbaa
