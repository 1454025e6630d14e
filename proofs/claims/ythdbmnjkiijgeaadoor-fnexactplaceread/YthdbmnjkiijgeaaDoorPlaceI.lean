/- Contracts of impl's parsePlace and PlaceRead: they answer a place just for the text of a place. -/
import Derived.Test.YthdbmnjkiijgeaaDoorPlaceS
import Derived.Test.YthdbmnjkiijgeaaDoorDoorW
namespace Go.Proofs.YthdbmnjkiijgeaaDoor
open Go.ChangeShapes Go.WideShapes Go.ChangeAt Go.RowKit
set_option linter.unusedVariables false

def trimB (s : ByteArray) : ByteArray := ⟨(Lib.trimPrefix s.data.toList [101]).toArray⟩
def cutA (t : ByteArray) : ByteArray := ⟨(Lib.cut t.data.toList [46]).1.toArray⟩
def cutB (t : ByteArray) : ByteArray := ⟨(Lib.cut t.data.toList [46]).2.1.toArray⟩
def cutO (t : ByteArray) : Bool := (Lib.cut t.data.toList [46]).2.2
theorem trimB_size (s : ByteArray) : (trimB s).size ≤ s.size := by
  rw [trimB, bsize, Lib.size_eq]; unfold Lib.trimPrefix; split
  · simp
  · simp
theorem cutA_size (s : ByteArray) : (cutA s).size ≤ s.size := by
  rw [cutA, bsize, Lib.size_eq]; unfold Lib.cut; split
  · simp; omega
  · simp
theorem cutB_size (s : ByteArray) : (cutB s).size ≤ s.size := by
  rw [cutB, bsize, Lib.size_eq]; unfold Lib.cut; split
  · simp
  · simp
theorem trim_any (s : ByteArray) (w : World) : Calls Tryd.prog 39 #[.string s, .string ⟨#[101]⟩] w fun e w' => e = .returned (.string (trimB s)) ∧ w = w' :=
  (Tryd.strings_TrimPrefix s ⟨#[101]⟩ w).mono fun _ _ ⟨h1, h2⟩ => ⟨h1, h2.symm⟩
theorem cut_any (t : ByteArray) (ht : t.size ≤ 4294967200) (w : World) (hd : Door w) : Calls Tryd.prog 38 #[.string t, .string ⟨#[46]⟩] w fun e w' => e = .returned (.tuple #[.string (cutA t), .string (cutB t), .bool (cutO t)]) ∧ Below w.heap.size w w' := by
  obtain ⟨⟨m, hm⟩, -, -⟩ := hd
  refine (Tryd.strings_Cut t ⟨#[46]⟩ m w (by omega) hm).mono fun e w' ⟨h1, n, h2⟩ => ⟨h1, ?_⟩
  rw [h2]; exact below_drewN (Below.refl _ _) _
theorem atoi_ok (t : ByteArray) (ht : t.size ≤ 4294967200) (v : Int) (h : Lib.atoiAll t.data.toList = .ok v) (w : World) : Calls Tryd.prog 40 #[.string t] w fun e w' => e = .returned (.tuple #[.int .i64 v, .nilIface]) ∧ Below w.heap.size w w' := by
  refine (Tryd.strconv_Atoi_ok t (by omega) v h w).mono fun e w' ⟨h1, h2⟩ => ⟨h1, ?_⟩
  rcases h2 with rfl | ⟨r, rfl⟩
  · exact Below.refl _ _
  · exact Lib.bytesWorld_below _ _ _
theorem atoi_err (t : ByteArray) (ht : t.size ≤ 4294967200) (h : ∀ v, Lib.atoiAll t.data.toList ≠ .ok v) (w : World) (hd : Door w) : Calls Tryd.prog 40 #[.string t] w fun e w' => (∃ v N, e = .returned (.tuple #[.int .i64 v, .iface 72 (.pointer (some ⟨N, 0, none⟩))])) ∧ Below w.heap.size w w' := by
  obtain ⟨-, ⟨t1, p1, hs⟩, ⟨t2, p2, hr⟩⟩ := hd
  cases he : Lib.atoiAll t.data.toList with
  | ok v => exact absurd he (h v)
  | range => exact (Tryd.strconv_Atoi_range t (by omega) he _ w hr (.inr ⟨_, _, rfl⟩)).mono fun e w' ⟨N, h1, _, _, h2⟩ => ⟨⟨_, N, h1⟩, h2⟩
  | _ =>
    have c := Any.strconv_Atoi_syntax Tryd.laysC172 t (show t.size ≤ 281474976710656 by omega) he _ w hs (.inr ⟨_, _, rfl⟩)
    exact c.mono fun e w' ⟨N, h1, _, _, h2⟩ => ⟨⟨_, N, h1⟩, h2⟩
/-- strconv.Atoi at whatever text: the number and no error, or some number and an error. -/
theorem atoi_any (t : ByteArray) (ht : t.size ≤ 4294967200) (w : World) (hd : Door w) : Calls Tryd.prog 40 #[.string t] w fun e w' => ((∃ v, Lib.atoiAll t.data.toList = .ok v ∧ e = .returned (.tuple #[.int .i64 v, .nilIface])) ∨ ((∀ v, Lib.atoiAll t.data.toList ≠ .ok v) ∧ ∃ v N, e = .returned (.tuple #[.int .i64 v, .iface 72 (.pointer (some ⟨N, 0, none⟩))]))) ∧ Below w.heap.size w w' := by
  by_cases h : ∃ v, Lib.atoiAll t.data.toList = .ok v
  · obtain ⟨v, h⟩ := h
    exact (atoi_ok t ht v h w).mono fun e w' ⟨h1, h2⟩ => ⟨.inl ⟨v, h, h1⟩, h2⟩
  · have h' : ∀ v, Lib.atoiAll t.data.toList ≠ .ok v := fun v hv => h ⟨v, hv⟩
    exact (atoi_err t ht h' w hd).mono fun e w' ⟨h1, h2⟩ => ⟨.inr ⟨h', h1⟩, h2⟩
/-- What parsePlace has when both numbers have been asked for. -/
theorem zero_cells {w w1 : World} {x y : Value} {T : TypeId} (hb : Below (w.heap.size + 1) (w.alloc (.cells #[x, y] T)) w1) :
    w1.cell? ⟨w.heap.size, 0, none⟩ = some x ∧ w1.cell? ⟨w.heap.size, 1, none⟩ = some y ∧ w1.frozen? ⟨w.heap.size, 0, none⟩ = false ∧ w1.frozen? ⟨w.heap.size, 1, none⟩ = false ∧ w.heap.size + 1 ≤ w1.heap.size := by
  refine ⟨(hb.cell (p := ⟨w.heap.size, 0, none⟩) (by simp)).trans (by simp [go_sem]), (hb.cell (p := ⟨w.heap.size, 1, none⟩) (by simp)).trans (by simp [go_sem]), (hb.frozen (p := ⟨w.heap.size, 0, none⟩) (by simp)).trans (by simp [go_sem]), (hb.frozen (p := ⟨w.heap.size, 1, none⟩) (by simp)).trans (by simp [go_sem]), by have := hb.size; simpa using this⟩
set_option maxHeartbeats 1000000 in
theorem parse_fail (s : ByteArray) (hs : s.size ≤ 4294967200) (w : World) (hd : Door w) (h : (∀ v, Lib.atoiAll (cutA (trimB s)).data.toList ≠ .ok v) ∨ (∀ v, Lib.atoiAll (cutB (trimB s)).data.toList ≠ .ok v)) :
    Calls Tryd.prog 28 #[.string s] w fun e w' => e = .returned (.agg #[.int .i64 0, .int .i64 0]) ∧ Below w.heap.size w w' := by
  have z1 := trimB_size s
  have z2 := cutA_size (trimB s)
  have z3 := cutB_size (trimB s)
  have C1 := hide (trim_any s)
  generalize trimB s = t at *
  have C2 : Hid (∀ w, Door w → Calls Tryd.prog 38 #[.string t, .string ⟨#[46]⟩] w fun e w' => e = .returned (.tuple #[.string (cutA t), .string (cutB t), .bool (cutO t)]) ∧ Below w.heap.size w w') := fun w hw => cut_any t (by omega) w hw
  generalize cutA t = ta at *
  generalize cutB t = tb at *
  generalize cutO t = tc at *
  have C3 := hide (atoi_any ta (by omega))
  have C4 := hide (atoi_any tb (by omega))
  have HH := hide h
  have hd1 : Door (w.alloc (.cells #[.int .i64 0, .int .i64 0] 40)) := hd.below ((Below.refl _ _).alloc (Nat.le_refl _) _)
  have hb0 : Below w.heap.size w (w.alloc (.cells #[.int .i64 0, .int .i64 0] 40)) := (Below.refl _ _).alloc (Nat.le_refl _) _
  clear h
  go_enter Tryd.func28, Tryd.ntmps28
  go_wp2_with fail
  refine (unhide C1 _).mono ?_
  rintro e w1 ⟨rfl, rfl⟩
  go_wp2_with fail
  refine (unhide C2 _ hd1).mono ?_
  rintro e w1 ⟨rfl, hb1⟩
  have hd2 := hd1.below hb1
  go_wp2_with fail
  refine (unhide C3 _ hd2).mono ?_
  rintro e w2 ⟨he1, hb2⟩
  have hd3 := hd2.below hb2
  have hb12 := hb1.trans (hb2.mono hb1.size)
  rcases he1 with ⟨v1, a1, rfl⟩ | ⟨a1, v1, n1, rfl⟩
  all_goals
    go_wp2_with fail
    refine (unhide C4 _ hd3).mono ?_
    rintro e w3 ⟨he2, hb3⟩
    have hb13 := hb12.trans (hb3.mono hb12.size)
    clear hd hd1 hd2 hd3 C1 C2 C3 C4 hb1 hb2 hb3 hb12
    obtain ⟨c0, c1, f0, f1, hsz⟩ := zero_cells (show Below (w.heap.size + 1) _ _ by simpa using hb13)
    have hbz := hide (hb0.trans (hb13.mono hb0.size))
    clear hb13 hb0
    rcases he2 with ⟨v2, a2, rfl⟩ | ⟨a2, v2, n2, rfl⟩
  · exact absurd (unhide HH) (by rintro (x | x); exact x _ a1; exact x _ a2)
  all_goals
    clear HH a1 a2
    go_wp2
    refine bodyPost_ret (v := .agg #[.int .i64 0, .int .i64 0]) (by simp [results, Tryd.results28, go_sem, c0, c1]) rfl ⟨rfl, ?_⟩
    exact ((unhide hbz).setCell (by simp) _).setCell (by simp) _
theorem on3 {w3 w5 : World} {o1 o2 : Obj} {x y : Value} {T : TypeId} (hb : Below (((w3.alloc o1).alloc o2).alloc (.cells #[x, y] T)).heap.size (((w3.alloc o1).alloc o2).alloc (.cells #[x, y] T)) w5) :
    Below w3.heap.size w3 w5 ∧ w5.cell? ⟨w3.heap.size + 1 + 1, 0, none⟩ = some x ∧ w5.cell? ⟨w3.heap.size + 1 + 1, 1, none⟩ = some y := by
  have h0 : Below w3.heap.size w3 (((w3.alloc o1).alloc o2).alloc (.cells #[x, y] T)) := (((Below.refl _ _).alloc (Nat.le_refl _) _).alloc (by simp) _).alloc (by simp; omega) _
  refine ⟨h0.trans (hb.mono h0.size), ?_, ?_⟩
  · exact (hb.cell (p := ⟨w3.heap.size + 1 + 1, 0, none⟩) (by simp)).trans (by simp [go_sem])
  · exact (hb.cell (p := ⟨w3.heap.size + 1 + 1, 1, none⟩) (by simp)).trans (by simp [go_sem])
theorem frozen_kept {w w' : World} {b o : Nat} {v : Value} (h : w.cell? ⟨b, o, none⟩ = some v) (hf : w.frozen? ⟨b, o, none⟩ = false) (hb : Below w.heap.size w w') : w'.frozen? ⟨b, o, none⟩ = false :=
  (hb.frozen (p := ⟨b, o, none⟩) (cell_lt h)).trans hf
set_option maxHeartbeats 2000000 in
theorem parse_ne (s : ByteArray) (hs : s.size ≤ 4294967200) (w : World) (hd : Door w) (v1 v2 : Int) (g1 : Lib.atoiAll (cutA (trimB s)).data.toList = .ok v1) (g2 : Lib.atoiAll (cutB (trimB s)).data.toList = .ok v2) (a b : Nat) (h1 : 1 ≤ a) (h2 : a ≤ 30) (h3 : 1 ≤ b) (h4 : b ≤ 60) (e1 : v1 = a) (e2 : v2 = b) (hl : ((plTextB a b).toList == s.toList) = false) :
    Calls Tryd.prog 28 #[.string s] w fun e w' => e = .returned (.agg #[.int .i64 0, .int .i64 0]) ∧ Below w.heap.size w w' := by
  subst e1 e2
  have z1 := trimB_size s
  have z2 := cutA_size (trimB s)
  have z3 := cutB_size (trimB s)
  have C1 := hide (trim_any s)
  generalize trimB s = t at *
  have C2 : Hid (∀ w, Door w → Calls Tryd.prog 38 #[.string t, .string ⟨#[46]⟩] w fun e w' => e = .returned (.tuple #[.string (cutA t), .string (cutB t), .bool (cutO t)]) ∧ Below w.heap.size w w') := fun w hw => cut_any t (by omega) w hw
  generalize cutA t = ta at *
  generalize cutB t = tb at *
  generalize cutO t = tc at *
  have C3 := hide (atoi_ok ta (by omega) _ g1)
  have C4 := hide (atoi_ok tb (by omega) _ g2)
  have hd1 : Door (w.alloc (.cells #[.int .i64 0, .int .i64 0] 40)) := hd.below ((Below.refl _ _).alloc (Nat.le_refl _) _)
  have hb0 : Below w.heap.size w (w.alloc (.cells #[.int .i64 0, .int .i64 0] 40)) := (Below.refl _ _).alloc (Nat.le_refl _) _
  clear g1 g2
  go_enter Tryd.func28, Tryd.ntmps28
  go_wp2_with fail
  refine (unhide C1 _).mono ?_
  rintro e w1 ⟨rfl, rfl⟩
  go_wp2_with fail
  refine (unhide C2 _ hd1).mono ?_
  rintro e w1 ⟨rfl, hb1⟩
  go_wp2_with fail
  refine (unhide C3 _).mono ?_
  rintro e w2 ⟨rfl, hb2⟩
  have hb12 := hb1.trans (hb2.mono hb1.size)
  go_wp2_with fail
  refine (unhide C4 _).mono ?_
  rintro e w3 ⟨rfl, hb3⟩
  have hb13 := hb12.trans (hb3.mono hb12.size)
  clear hd hd1 C1 C2 C3 C4 hb1 hb2 hb3 hb12
  obtain ⟨c0, c1, f0, f1, hsz⟩ := zero_cells (show Below (w.heap.size + 1) _ _ by simpa using hb13)
  have hbz := hide (hb0.trans (hb13.mono hb0.size))
  clear hb13 hb0
  go_wp2_with (go_at_call 23; refine (checked_yes _ _ (by omega) (by omega) (by omega) (by omega) _).mono ?_; rintro e w4 ⟨rfl, rfl⟩)
  refine (text_yes a b h1 h2 h3 h4 _).mono ?_
  rintro e w5 ⟨rfl, hb5⟩
  obtain ⟨hB, d0, d1⟩ := on3 hb5
  have c0' := cell_kept c0 hB
  have c1' := cell_kept c1 hB
  have f0' := frozen_kept c0 f0 hB
  have f1' := frozen_kept c1 f1 hB
  have hbw := hide ((unhide hbz).trans (hB.mono (unhide hbz).size))
  clear c0 c1 f0 f1 hB hb5 hbz
  go_wp2
  refine bodyPost_ret (v := .agg #[.int .i64 0, .int .i64 0]) (by simp [results, Tryd.results28, go_sem, c0', c1']) rfl ⟨rfl, ?_⟩
  exact ((unhide hbw).setCell (by simp) _).setCell (by simp) _

set_option maxHeartbeats 2000000 in
theorem parse_eq (s : ByteArray) (hs : s.size ≤ 4294967200) (w : World) (hd : Door w) (v1 v2 : Int) (g1 : Lib.atoiAll (cutA (trimB s)).data.toList = .ok v1) (g2 : Lib.atoiAll (cutB (trimB s)).data.toList = .ok v2) (a b : Nat) (h1 : 1 ≤ a) (h2 : a ≤ 30) (h3 : 1 ≤ b) (h4 : b ≤ 60) (e1 : v1 = a) (e2 : v2 = b) (hl : ((plTextB a b).toList == s.toList) = true) :
    Calls Tryd.prog 28 #[.string s] w fun e w' => e = .returned (.agg #[.int .i64 (a : Int), .int .i64 (b : Int)]) ∧ Below w.heap.size w w' := by
  subst e1 e2
  have z1 := trimB_size s
  have z2 := cutA_size (trimB s)
  have z3 := cutB_size (trimB s)
  have C1 := hide (trim_any s)
  generalize trimB s = t at *
  have C2 : Hid (∀ w, Door w → Calls Tryd.prog 38 #[.string t, .string ⟨#[46]⟩] w fun e w' => e = .returned (.tuple #[.string (cutA t), .string (cutB t), .bool (cutO t)]) ∧ Below w.heap.size w w') := fun w hw => cut_any t (by omega) w hw
  generalize cutA t = ta at *
  generalize cutB t = tb at *
  generalize cutO t = tc at *
  have C3 := hide (atoi_ok ta (by omega) _ g1)
  have C4 := hide (atoi_ok tb (by omega) _ g2)
  have hd1 : Door (w.alloc (.cells #[.int .i64 0, .int .i64 0] 40)) := hd.below ((Below.refl _ _).alloc (Nat.le_refl _) _)
  have hb0 : Below w.heap.size w (w.alloc (.cells #[.int .i64 0, .int .i64 0] 40)) := (Below.refl _ _).alloc (Nat.le_refl _) _
  clear g1 g2
  go_enter Tryd.func28, Tryd.ntmps28
  go_wp2_with fail
  refine (unhide C1 _).mono ?_
  rintro e w1 ⟨rfl, rfl⟩
  go_wp2_with fail
  refine (unhide C2 _ hd1).mono ?_
  rintro e w1 ⟨rfl, hb1⟩
  go_wp2_with fail
  refine (unhide C3 _).mono ?_
  rintro e w2 ⟨rfl, hb2⟩
  have hb12 := hb1.trans (hb2.mono hb1.size)
  go_wp2_with fail
  refine (unhide C4 _).mono ?_
  rintro e w3 ⟨rfl, hb3⟩
  have hb13 := hb12.trans (hb3.mono hb12.size)
  clear hd hd1 C1 C2 C3 C4 hb1 hb2 hb3 hb12
  obtain ⟨c0, c1, f0, f1, hsz⟩ := zero_cells (show Below (w.heap.size + 1) _ _ by simpa using hb13)
  have hbz := hide (hb0.trans (hb13.mono hb0.size))
  clear hb13 hb0
  go_wp2_with (go_at_call 23; refine (checked_yes _ _ (by omega) (by omega) (by omega) (by omega) _).mono ?_; rintro e w4 ⟨rfl, rfl⟩)
  refine (text_yes a b h1 h2 h3 h4 _).mono ?_
  rintro e w5 ⟨rfl, hb5⟩
  obtain ⟨hB, d0, d1⟩ := on3 hb5
  have c0' := cell_kept c0 hB
  have c1' := cell_kept c1 hB
  have f0' := frozen_kept c0 f0 hB
  have f1' := frozen_kept c1 f1 hB
  have hbw := hide ((unhide hbz).trans (hB.mono (unhide hbz).size))
  clear c0 c1 f0 f1 hB hb5 hbz
  go_wp2
  refine bodyPost_ret (v := .agg #[.int .i64 (a : Int), .int .i64 (b : Int)]) (by simp [results, Tryd.results28, go_sem, c0', c1']) rfl ⟨rfl, ?_⟩
  exact ((unhide hbw).setCell (by simp) _).setCell (by simp) _

set_option maxHeartbeats 2000000 in
theorem parse_out (s : ByteArray) (hs : s.size ≤ 4294967200) (w : World) (hd : Door w) (v1 v2 : Int) (g1 : Lib.atoiAll (cutA (trimB s)).data.toList = .ok v1) (g2 : Lib.atoiAll (cutB (trimB s)).data.toList = .ok v2) (hr : v1 < 1 ∨ 30 < v1 ∨ v2 < 1 ∨ 60 < v2) :
    Calls Tryd.prog 28 #[.string s] w fun e w' => e = .returned (.agg #[.int .i64 0, .int .i64 0]) ∧ Below w.heap.size w w' := by
  have z1 := trimB_size s
  have z2 := cutA_size (trimB s)
  have z3 := cutB_size (trimB s)
  have C1 := hide (trim_any s)
  generalize trimB s = t at *
  have C2 : Hid (∀ w, Door w → Calls Tryd.prog 38 #[.string t, .string ⟨#[46]⟩] w fun e w' => e = .returned (.tuple #[.string (cutA t), .string (cutB t), .bool (cutO t)]) ∧ Below w.heap.size w w') := fun w hw => cut_any t (by omega) w hw
  generalize cutA t = ta at *
  generalize cutB t = tb at *
  generalize cutO t = tc at *
  have C3 := hide (atoi_ok ta (by omega) _ g1)
  have C4 := hide (atoi_ok tb (by omega) _ g2)
  have hd1 : Door (w.alloc (.cells #[.int .i64 0, .int .i64 0] 40)) := hd.below ((Below.refl _ _).alloc (Nat.le_refl _) _)
  have hb0 : Below w.heap.size w (w.alloc (.cells #[.int .i64 0, .int .i64 0] 40)) := (Below.refl _ _).alloc (Nat.le_refl _) _
  clear g1 g2
  go_enter Tryd.func28, Tryd.ntmps28
  go_wp2_with fail
  refine (unhide C1 _).mono ?_
  rintro e w1 ⟨rfl, rfl⟩
  go_wp2_with fail
  refine (unhide C2 _ hd1).mono ?_
  rintro e w1 ⟨rfl, hb1⟩
  go_wp2_with fail
  refine (unhide C3 _).mono ?_
  rintro e w2 ⟨rfl, hb2⟩
  have hb12 := hb1.trans (hb2.mono hb1.size)
  go_wp2_with fail
  refine (unhide C4 _).mono ?_
  rintro e w3 ⟨rfl, hb3⟩
  have hb13 := hb12.trans (hb3.mono hb12.size)
  clear hd hd1 C1 C2 C3 C4 hb1 hb2 hb3 hb12
  obtain ⟨c0, c1, f0, f1, hsz⟩ := zero_cells (show Below (w.heap.size + 1) _ _ by simpa using hb13)
  have hbz := hide (hb0.trans (hb13.mono hb0.size))
  clear hb13 hb0
  go_wp2_with (go_at_call 23; refine (checked_no _ _ hr _).mono ?_; rintro e w4 ⟨rfl, rfl⟩)
  refine (text_no _).mono ?_
  rintro e w5 ⟨rfl, hb5⟩
  obtain ⟨hB, d0, d1⟩ := on3 hb5
  have c0' := cell_kept c0 hB
  have c1' := cell_kept c1 hB
  have f0' := frozen_kept c0 f0 hB
  have f1' := frozen_kept c1 f1 hB
  have hbw := hide ((unhide hbz).trans (hB.mono (unhide hbz).size))
  clear c0 c1 f0 f1 hB hb5 hbz
  go_wp2
  all_goals refine bodyPost_ret (v := .agg #[.int .i64 0, .int .i64 0]) (by simp [results, Tryd.results28, go_sem, c0', c1']) rfl ⟨rfl, ?_⟩
  all_goals exact ((unhide hbw).setCell (by simp) _).setCell (by simp) _

end Go.Proofs.YthdbmnjkiijgeaaDoor
