/- The lines of deeds: spec's DeedLine (printed by tools/mkdlf.py). -/
import Derived.Test.YtmgomacmaidmlaaGreatDoorDlE
import Derived.Test.YtmgomacmaidmlaaGreatDoorInP
namespace Go.Proofs.YtmgomacmaidmlaaGreatDoor
open Go.ChangeShapes Go.WideShapes Go.ChangeAt Go.RowKit
set_option linter.unusedVariables false
set_option linter.unusedSimpArgs false
set_option maxRecDepth 100000

theorem lineS_snoc (wd : ByteArray) (L : List Int) (i : Nat) (h : i < L.length) : lineS wd ((L.take (i + 1)).map numS) = (lineS wd ((L.take i).map numS) ++ ⟨#[32]⟩) ++ numS L[i] := by
  rw [List.take_succ_eq_append_getElem h, List.map_append]
  simp [lineS]
theorem take_all (L : List Int) (i : Nat) (h : i < L.length) (hT : ∀ x ∈ L.take i, tenP x) (hx : tenP L[i]) : ∀ x ∈ L.take (i + 1), tenP x := by
  intro x hm
  rw [List.take_succ_eq_append_getElem h, List.mem_append] at hm
  rcases hm with hm | hm
  · exact hT x hm
  · simp at hm; subst hm; exact hx
theorem lineS_nums (wd : ByteArray) (L : List Int) (i : Nat) (hw : wd.size ≤ 5) (hL : L.length ≤ 3 ∧ ∀ x ∈ L, -9223372036854775808 ≤ x ∧ x ≤ 9223372036854775807) : (lineS wd ((L.take i).map numS)).size ≤ 300 := by
  have h := lineS_size wd ((L.take i).map numS) (fun x hx => by
    obtain ⟨y, hy, rfl⟩ := List.mem_map.1 hx
    have := numS_size (hL.2 y (List.mem_of_mem_take hy)).2
    omega)
  rw [List.length_map, List.length_take] at h
  omega
theorem numsL_in (d : De) (hi : d.ints) : (numsL d).length ≤ 3 ∧ ∀ x ∈ numsL d, -9223372036854775808 ≤ x ∧ x ≤ 9223372036854775807 := by
  obtain ⟨k, a, b, c, t⟩ := d
  obtain ⟨ha, hb, hc⟩ := hi
  simp only at ha hb hc
  unfold numsL
  simp only
  split <;> simp [ha, hb, hc]
theorem line_13 (d : De) (h : d.k = 13) : lineS (wordB d.k) (tailL (nm d.k) d) = (lineS (wordB d.k) ((numsL d).map numS) ++ ⟨#[32]⟩) ++ plS d.a := by
  obtain ⟨k, a, b, c, t⟩ := d
  simp only at h
  subst h
  simp [lineS, tailL, nm, nmL, numsL, fstS]
theorem line_2 (d : De) (h : d.k = 2) : lineS (wordB d.k) (tailL (nm d.k) d) = (lineS (wordB d.k) ((numsL d).map numS) ++ ⟨#[32]⟩) ++ d.t := by
  obtain ⟨k, a, b, c, t⟩ := d
  simp only at h
  subst h
  simp [lineS, tailL, nm, nmL, numsL, fstS]
theorem line_0 (d : De) (hk : 1 ≤ d.k ∧ d.k ≤ 16) (h13 : ¬ d.k = 13) (h2 : ¬ d.k = 2) : lineS (wordB d.k) (tailL (nm d.k) d) = lineS (wordB d.k) ((numsL d).map numS) := by
  obtain ⟨k, a, b, c, t⟩ := d
  simp only at hk h13 h2
  rcases kinds16 hk with rfl | rfl | rfl | rfl | rfl | rfl | rfl | rfl | rfl | rfl | rfl | rfl | rfl | rfl | rfl | rfl <;> first | (exact absurd rfl h13) | (exact absurd rfl h2) | simp [lineS, tailL, nm, nmL, numsL, fstS]
set_option maxHeartbeats 8000000 in
theorem specLine_any (d : De) (Post : Ending → Prop) (w : World) (hk : 1 ≤ d.k ∧ d.k ≤ 16) (hi : d.ints) (ht : d.t.size ≤ 40) (CD : ∀ w, Calls Tryz.prog 8 #[d.val] w fun r w' => r = .returned (.bool true) ∧ Below w.heap.size w w') (h13 : d.k = 13 → isPl d.a)
    (YES : (∀ j (h : j < d.t.size), d.t[j] ≠ 10) → (∀ x ∈ numsL d, tenP x) → Post (.returned (.tuple #[.string (lineS (wordB d.k) (tailL (nm d.k) d)), .bool true])))
    (NO1 : (∃ j, ∃ h : j < d.t.size, d.t[j] = 10) → Post (.returned (.tuple #[.string ⟨#[]⟩, .bool false])))
    (NO2 : (∃ x ∈ numsL d, ¬ tenP x) → Post (.returned (.tuple #[.string ⟨#[]⟩, .bool false]))) :
    Calls Tryz.prog 5 #[d.val] w fun e w' => Post e ∧ Below w.heap.size w w' := by
  have CW := dHide fun W => specWord_any d.k hk W
  have CN := dHide fun W => specNums_any d hk W
  have YES := dHide YES
  have NO1 := dHide NO1
  have NO2 := dHide NO2
  have HI := dHide hi
  obtain ⟨k, a, b, c, t⟩ := d
  have CD := dHide CD
  simp only [De.val] at *
  by_cases hk13 : k = 13
  · subst hk13
    have CO := dHide fun W => specOk_yes a (h13 rfl) W
    have HTL := dHide (line_13 ⟨13, a, b, c, t⟩ rfl)
    have HB := dHide (numsL_in ⟨13, a, b, c, t⟩ (dUnhide HI))
    have hwd := wordB_size 13 hk
    simp only at HTL HB
    generalize lineS (wordB 13) (tailL (nm 13) ⟨13, a, b, c, t⟩) = OUT at *
    generalize numsL ⟨13, a, b, c, t⟩ = L at *
    generalize wordB 13 = wd at *
    clear h13 hk hi
    have X1 := Bx.new w [.int .i64 13, .int .i64 a, .int .i64 b, .int .i64 c, .string t] 27
    have b1 : Below w.heap.size w (w.alloc (.cells #[.int .i64 13, .int .i64 a, .int .i64 b, .int .i64 c, .string t] 27)) := (Below.refl _ _).alloc (Nat.le_refl _) _
    go_enter Tryz.func5, Tryz.ntmps5
    go_wp2_with (first | (go_at_call 8; refine (dUnhide CD _).mono ?_; rintro e w2 ⟨rfl, hb2⟩; have B2 := belowThen b1 hb2; have X2 := X1.below hb2; have z0 := X2 0 _ rfl; have z1 := X2 1 _ rfl; have z2 := X2 2 _ rfl; have z3 := X2 3 _ rfl; have z4 := X2 4 _ rfl) | (go_at_call 9; refine (dUnhide CO _).mono ?_; rintro e w2' ⟨rfl, rfl⟩))
    clear CD hb2 b1 X1 z0 z1 z2 z3 z4 CO
    go_loopw [4] (fun x wr => ∃ i : Nat, x = .int .i64 (i : Int) ∧ i ≤ t.size ∧ Hid (∀ j (h : j < t.size), j < i → t[j] ≠ 10) ∧ Below w2.heap.size w2 wr) (fun x _ => t.size - (intOf x).toNat)
    case atStart => exact ⟨0, rfl, Nat.zero_le _, fun _ _ h => by omega, Below.refl _ _⟩
    case round =>
      obtain ⟨i, rfl, hi, hN, hb⟩ := hrel
      have y4 := X2.below hb 4 _ rfl
      by_cases hlt : (i : Int) < (t.size : Int)
      · have hil : i < t.size := by omega
        by_cases h10 : t[i] = 10
        · have E := dUnhide NO1 ⟨i, hil, h10⟩
          have h10' : ((t[i].toNat : Nat) : Int) = 10 := by rw [h10]; rfl
          have B3 := belowThen B2 hb
          clear h10 NO1 NO2 YES hN
          go_wp2_with fail
          go_returns
          exact ⟨E, B3⟩
        · have h10' : ¬ ((t[i].toNat : Nat) : Int) = 10 := fun h => h10 (UInt8.toNat.inj (by simpa using (by omega : t[i].toNat = 10)))
          have hN' : Hid (∀ j (h : j < t.size), j < i + 1 → t[j] ≠ 10) := fun j h hj => by
            rcases Nat.lt_or_ge j i with h1 | h1
            · exact dUnhide hN j h h1
            · obtain rfl : j = i := by omega
              exact h10
          clear h10 hN
          go_wp2_with fail
          go_roundw
          case rel => exact ⟨i + 1, by go_num, by omega, hN', hb⟩
          case measure => simp [intOf]; omega
      · obtain rfl : i = t.size := by omega
        have T0 := dHide fun j (h : j < t.size) => dUnhide hN j h h
        clear hN
        have Y := X2.below hb
        have B3 := belowThen B2 hb
        clear hlt hi y4 NO1 hb
        have z0 := Y 0 _ rfl
        have z1 := Y 1 _ rfl
        have z2 := Y 2 _ rfl
        have z3 := Y 3 _ rfl
        have z4 := Y 4 _ rfl
        go_wp2_with (first
          | (go_at_call 10; refine (dUnhide CW _).mono ?_; rintro e w3 ⟨rfl, hb3⟩; have B4 := belowThen B3 hb3; have Y3 := Y.below hb3; have z0 := Y3 0 _ rfl; have z1 := Y3 1 _ rfl; have z2 := Y3 2 _ rfl; have z3 := Y3 3 _ rfl; have z4 := Y3 4 _ rfl)
          | (go_at_call 11; refine (dUnhide CN _).mono ?_; rintro e w4 ⟨⟨nv, rfl, N4⟩, hb4⟩; have B5 := belowThen B4 hb4; have Y4 := Y3.below hb4; have HN := dHide N4; obtain ⟨-, na, nc, rfl, -, -⟩ := N4))
        clear CW CN hb3 hb4 B3 B4 Y Y3 z0 z1 z2 z3 z4 X2 B2
        go_loopw [7, 5] (fun x y wr => ∃ i : Nat, x = .int .i64 (i : Int) ∧ y = .string (lineS wd ((L.take i).map numS)) ∧ i ≤ L.length ∧ Hid (∀ x ∈ L.take i, tenP x) ∧ Below w4.heap.size w4 wr) (fun x _ _ => L.length - (intOf x).toNat)
        case atStart => exact ⟨0, rfl, by simp [lineS], Nat.zero_le _, fun _ h => by simp at h, Below.refl _ _⟩
        case round =>
          obtain ⟨i, rfl, rfl, hi, hT, hb⟩ := hrel
          by_cases hlt : (i : Int) < (L.length : Int)
          · have hil : i < L.length := by omega
            obtain ⟨-, a', c', e', -, h'⟩ := (dUnhide HN).below hb
            cases e'
            obtain ⟨nb, off, rfl, hc⟩ := orN_of_lt h' hil
            have c0 := hc i hil
            have hmem := List.getElem_mem hil
            have hsn := lineS_snoc wd L i hil
            have HA := dHide fun hT hx => take_all L i hil hT hx
            have hsz := lineS_nums wd L i hwd (dUnhide HB)
            have hxb := (dUnhide HB).2 _ hmem
            have hL3 := (dUnhide HB).1
            generalize L[i] = x at *
            by_cases hx : tenP x
            · have CI := dHide fun W => l1In_yes x 0 9999999999 hx.1 hx.2 W
              have CX := dHide fun W => specNum_any x hxb.2 W
              have hnx := numS_size hxb.2
              generalize lineS wd ((L.take i).map numS) = out at *
              have e1 := addS out ⟨#[32]⟩ (by rw [show (⟨#[32]⟩ : ByteArray).size = 1 from rfl]; omega)
              have e2 := addS (out ++ ⟨#[32]⟩) (numS x) (by rw [sizeS, show (⟨#[32]⟩ : ByteArray).size = 1 from rfl]; omega)
              have hT' := dHide (dUnhide HA (dUnhide hT) hx)
              clear hT hmem hxb hnx hsz hc h' hx HA
              go_wp2_with (first
                | (go_at_call 12; refine (dUnhide CI _).mono ?_; rintro e w5 ⟨rfl, rfl⟩)
                | (go_at_call 13; refine (dUnhide CX _).mono ?_; rintro e w6 ⟨rfl, hb6⟩; have hb7 := belowThen hb hb6))
              go_roundw
              case rel => exact ⟨i + 1, by go_num, by rw [hsn], by omega, hT', hb7⟩
              case measure => simp [intOf]; omega
            · have CI := dHide fun W => l1In_no x 0 9999999999 (by unfold tenP at hx; omega) W
              have E := dUnhide NO2 ⟨x, hmem, hx⟩
              have B6 := belowThen B5 hb
              clear hmem hxb hsz hsn hc h' hx hT NO2 YES HA
              go_wp2_with (first
                | (go_at_call 12; refine (dUnhide CI _).mono ?_; rintro e w5 ⟨rfl, rfl⟩))
              go_returns
              exact ⟨E, B6⟩
          · obtain rfl : i = L.length := by omega
            have E0 := dUnhide YES (dUnhide T0) (by have := dUnhide hT; rwa [List.take_length] at this)
            have hsz := lineS_nums wd L L.length hwd (dUnhide HB)
            rw [List.take_length] at hsz
            rw [List.take_length]
            have Y5 := Y4.below hb
            have B6 := belowThen B5 hb
            have z0 := Y5 0 _ rfl
            have z1 := Y5 1 _ rfl
            have z2 := Y5 2 _ rfl
            have z3 := Y5 3 _ rfl
            have z4 := Y5 4 _ rfl
            clear hT hlt hi NO2 YES T0 HN HB B5 Y4
            have CP := dHide fun W => specPT_any a (dUnhide HI).1.2 W
            have hp := plS_size a
            generalize lineS wd (L.map numS) = out at *
            have e1 := addS out ⟨#[32]⟩ (by rw [show (⟨#[32]⟩ : ByteArray).size = 1 from rfl]; omega)
            have e2 := addS (out ++ ⟨#[32]⟩) (plS a) (by rw [sizeS, show (⟨#[32]⟩ : ByteArray).size = 1 from rfl]; omega)
            clear hsz hp
            go_wp2_with (go_at_call 14; refine (dUnhide CP _).mono ?_; rintro e w7 ⟨rfl, hb7⟩; have B7 := belowThen B6 hb7)
            go_returns
            exact ⟨by rw [← dUnhide HTL]; exact E0, B7⟩
  · have HT2 := dHide fun h => line_2 ⟨k, a, b, c, t⟩ h
    have HT0 := dHide fun h => line_0 ⟨k, a, b, c, t⟩ hk hk13 h
    have HB := dHide (numsL_in ⟨k, a, b, c, t⟩ (dUnhide HI))
    have hwd := wordB_size k hk
    simp only at HT2 HT0 HB
    generalize lineS (wordB k) (tailL (nm k) ⟨k, a, b, c, t⟩) = OUT at *
    generalize numsL ⟨k, a, b, c, t⟩ = L at *
    generalize wordB k = wd at *
    clear h13 hi hk
    have X1 := Bx.new w [.int .i64 k, .int .i64 a, .int .i64 b, .int .i64 c, .string t] 27
    have b1 : Below w.heap.size w (w.alloc (.cells #[.int .i64 k, .int .i64 a, .int .i64 b, .int .i64 c, .string t] 27)) := (Below.refl _ _).alloc (Nat.le_refl _) _
    go_enter Tryz.func5, Tryz.ntmps5
    go_wp2_with (go_at_call 8; refine (dUnhide CD _).mono ?_; rintro e w2 ⟨rfl, hb2⟩; have B2 := belowThen b1 hb2; have X2 := X1.below hb2; have z0 := X2 0 _ rfl; have z1 := X2 1 _ rfl; have z2 := X2 2 _ rfl; have z3 := X2 3 _ rfl; have z4 := X2 4 _ rfl)
    clear CD hb2 b1 X1 z0 z1 z2 z3 z4
    go_loopw [4] (fun x wr => ∃ i : Nat, x = .int .i64 (i : Int) ∧ i ≤ t.size ∧ Hid (∀ j (h : j < t.size), j < i → t[j] ≠ 10) ∧ Below w2.heap.size w2 wr) (fun x _ => t.size - (intOf x).toNat)
    case atStart => exact ⟨0, rfl, Nat.zero_le _, fun _ _ h => by omega, Below.refl _ _⟩
    case round =>
      obtain ⟨i, rfl, hi, hN, hb⟩ := hrel
      have y4 := X2.below hb 4 _ rfl
      by_cases hlt : (i : Int) < (t.size : Int)
      · have hil : i < t.size := by omega
        by_cases h10 : t[i] = 10
        · have E := dUnhide NO1 ⟨i, hil, h10⟩
          have h10' : ((t[i].toNat : Nat) : Int) = 10 := by rw [h10]; rfl
          have B3 := belowThen B2 hb
          clear h10 NO1 NO2 YES hN
          go_wp2_with fail
          go_returns
          exact ⟨E, B3⟩
        · have h10' : ¬ ((t[i].toNat : Nat) : Int) = 10 := fun h => h10 (UInt8.toNat.inj (by simpa using (by omega : t[i].toNat = 10)))
          have hN' : Hid (∀ j (h : j < t.size), j < i + 1 → t[j] ≠ 10) := fun j h hj => by
            rcases Nat.lt_or_ge j i with h1 | h1
            · exact dUnhide hN j h h1
            · obtain rfl : j = i := by omega
              exact h10
          clear h10 hN
          go_wp2_with fail
          go_roundw
          case rel => exact ⟨i + 1, by go_num, by omega, hN', hb⟩
          case measure => simp [intOf]; omega
      · obtain rfl : i = t.size := by omega
        have T0 := dHide fun j (h : j < t.size) => dUnhide hN j h h
        clear hN
        have Y := X2.below hb
        have B3 := belowThen B2 hb
        clear hlt hi y4 NO1 hb
        have z0 := Y 0 _ rfl
        have z1 := Y 1 _ rfl
        have z2 := Y 2 _ rfl
        have z3 := Y 3 _ rfl
        have z4 := Y 4 _ rfl
        go_wp2_with (first
          | (go_at_call 10; refine (dUnhide CW _).mono ?_; rintro e w3 ⟨rfl, hb3⟩; have B4 := belowThen B3 hb3; have Y3 := Y.below hb3; have z0 := Y3 0 _ rfl; have z1 := Y3 1 _ rfl; have z2 := Y3 2 _ rfl; have z3 := Y3 3 _ rfl; have z4 := Y3 4 _ rfl)
          | (go_at_call 11; refine (dUnhide CN _).mono ?_; rintro e w4 ⟨⟨nv, rfl, N4⟩, hb4⟩; have B5 := belowThen B4 hb4; have Y4 := Y3.below hb4; have HN := dHide N4; obtain ⟨-, na, nc, rfl, -, -⟩ := N4))
        clear CW CN hb3 hb4 B3 B4 Y Y3 z0 z1 z2 z3 z4 X2 B2
        go_loopw [7, 5] (fun x y wr => ∃ i : Nat, x = .int .i64 (i : Int) ∧ y = .string (lineS wd ((L.take i).map numS)) ∧ i ≤ L.length ∧ Hid (∀ x ∈ L.take i, tenP x) ∧ Below w4.heap.size w4 wr) (fun x _ _ => L.length - (intOf x).toNat)
        case atStart => exact ⟨0, rfl, by simp [lineS], Nat.zero_le _, fun _ h => by simp at h, Below.refl _ _⟩
        case round =>
          obtain ⟨i, rfl, rfl, hi, hT, hb⟩ := hrel
          by_cases hlt : (i : Int) < (L.length : Int)
          · have hil : i < L.length := by omega
            obtain ⟨-, a', c', e', -, h'⟩ := (dUnhide HN).below hb
            cases e'
            obtain ⟨nb, off, rfl, hc⟩ := orN_of_lt h' hil
            have c0 := hc i hil
            have hmem := List.getElem_mem hil
            have hsn := lineS_snoc wd L i hil
            have HA := dHide fun hT hx => take_all L i hil hT hx
            have hsz := lineS_nums wd L i hwd (dUnhide HB)
            have hxb := (dUnhide HB).2 _ hmem
            have hL3 := (dUnhide HB).1
            generalize L[i] = x at *
            by_cases hx : tenP x
            · have CI := dHide fun W => l1In_yes x 0 9999999999 hx.1 hx.2 W
              have CX := dHide fun W => specNum_any x hxb.2 W
              have hnx := numS_size hxb.2
              generalize lineS wd ((L.take i).map numS) = out at *
              have e1 := addS out ⟨#[32]⟩ (by rw [show (⟨#[32]⟩ : ByteArray).size = 1 from rfl]; omega)
              have e2 := addS (out ++ ⟨#[32]⟩) (numS x) (by rw [sizeS, show (⟨#[32]⟩ : ByteArray).size = 1 from rfl]; omega)
              have hT' := dHide (dUnhide HA (dUnhide hT) hx)
              clear hT hmem hxb hnx hsz hc h' hx HA
              go_wp2_with (first
                | (go_at_call 12; refine (dUnhide CI _).mono ?_; rintro e w5 ⟨rfl, rfl⟩)
                | (go_at_call 13; refine (dUnhide CX _).mono ?_; rintro e w6 ⟨rfl, hb6⟩; have hb7 := belowThen hb hb6))
              go_roundw
              case rel => exact ⟨i + 1, by go_num, by rw [hsn], by omega, hT', hb7⟩
              case measure => simp [intOf]; omega
            · have CI := dHide fun W => l1In_no x 0 9999999999 (by unfold tenP at hx; omega) W
              have E := dUnhide NO2 ⟨x, hmem, hx⟩
              have B6 := belowThen B5 hb
              clear hmem hxb hsz hsn hc h' hx hT NO2 YES HA
              go_wp2_with (first
                | (go_at_call 12; refine (dUnhide CI _).mono ?_; rintro e w5 ⟨rfl, rfl⟩))
              go_returns
              exact ⟨E, B6⟩
          · obtain rfl : i = L.length := by omega
            have E0 := dUnhide YES (dUnhide T0) (by have := dUnhide hT; rwa [List.take_length] at this)
            have hsz := lineS_nums wd L L.length hwd (dUnhide HB)
            rw [List.take_length] at hsz
            rw [List.take_length]
            have Y5 := Y4.below hb
            have B6 := belowThen B5 hb
            have z0 := Y5 0 _ rfl
            have z1 := Y5 1 _ rfl
            have z2 := Y5 2 _ rfl
            have z3 := Y5 3 _ rfl
            have z4 := Y5 4 _ rfl
            clear hT hlt hi NO2 YES T0 HN HB B5 Y4
            by_cases hk2 : k = 2
            · subst hk2
              have e0 := dUnhide HT2 rfl
              generalize lineS wd (L.map numS) = out at *
              have e1 := addS out ⟨#[32]⟩ (by rw [show (⟨#[32]⟩ : ByteArray).size = 1 from rfl]; omega)
              have e2 := addS (out ++ ⟨#[32]⟩) t (by rw [sizeS, show (⟨#[32]⟩ : ByteArray).size = 1 from rfl]; omega)
              rw [e0] at E0
              clear hsz HT2 HT0 e0
              go_wp2_with fail
              go_returns
              exact ⟨E0, B6⟩
            · have e0 := dUnhide HT0 hk2
              generalize lineS wd (L.map numS) = out at *
              rw [e0] at E0
              clear hsz HT2 HT0 e0
              go_wp2_with fail
              go_returns
              exact ⟨E0, B6⟩
end Go.Proofs.YtmgomacmaidmlaaGreatDoor
