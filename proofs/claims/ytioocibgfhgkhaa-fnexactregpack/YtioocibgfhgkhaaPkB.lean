/- Records as bytes: spec's ConfigPack. -/
import Derived.Test.YtioocibgfhgkhaaPkA
import Derived.Test.YtioocibgfhgkhaaGaC
import Derived.Test.YtioocibgfhgkhaaGaA
import Derived.Deep.RegionHeld3
import Derived.Deep.DeepCutAuto
namespace Go.Proofs.Ytioocibgfhgkhaa
open Go.ChangeShapes Go.WideShapes Go.ChangeAt Go.RowKit
set_option linter.unusedVariables false
set_option linter.unusedSimpArgs false
set_option maxRecDepth 100000

/-- The bytes of a config. -/
def cfgB (ds : List Int) (cop : Int) : List UInt8 := lstB ds ++ numB cop.toNat
open Classical in
/-- ConfigPack. -/
noncomputable def cfgM (ds : List Int) (cop : Int) : List UInt8 × Bool := if cfgP ds cop then (cfgB ds cop, true) else ([], false)
theorem cfgM_yes {ds : List Int} {cop : Int} (h : cfgP ds cop) : cfgM ds cop = (cfgB ds cop, true) := if_pos h
theorem cfgM_no {ds : List Int} {cop : Int} (h : ¬ cfgP ds cop) : cfgM ds cop = ([], false) := if_neg h
/-- A list's bytes, in a world that grew. -/
theorem list_at (v : Value) (xs : List Int) (w0 W : World) (hv : Ns W v xs) (h0 : natI xs) (hl : xs.length ≤ 1048576) (hb : Below w0.heap.size w0 W) :
    Calls Try.prog 36 #[v] W fun e w' => ∃ g cap, e = .returned (.slice (some ⟨g, 0, none⟩) (lstB xs).length cap) ∧ w'.ownsRow w0.heap.size 5 1 (.slice (some ⟨g, 0, none⟩) (lstB xs).length cap) (lstB xs).length (bcells (lstB xs)) ∧ W.grownBy w' none ∧ Below w0.heap.size w0 w' := by
  refine (specList17_any v xs W hv h0 hl).mono fun e w' ⟨⟨u, h1, h2⟩, h3⟩ => ?_
  obtain ⟨g, cap, rfl⟩ := own_some h2 (lstB_pos xs)
  exact ⟨g, cap, h1, own_mono h2 hb.size, Below.row h3 none, hb.trans (h3.mono hb.size)⟩
set_option maxHeartbeats 4000000 in
theorem specConfigPack_any (sv : Value) (ds : List Int) (cop : Int) (w : World) (hv : Ns w sv ds) :
    Calls Try.prog 8 #[.agg #[sv, .int .i64 cop]] w fun e w' => (∃ u, e = .returned (.tuple #[u, .bool (cfgM ds cop).2]) ∧ OwnB w' w.heap.size u (cfgM ds cop).1 ∧ ((cfgM ds cop).1 ≠ [] → w'.ownsRow w.heap.size 5 1 u (cfgM ds cop).1.length (bcells (cfgM ds cop).1))) ∧ Below w.heap.size w w' := by
  have ba : ∀ (w : World) o, Below w.heap.size w (w.alloc o) := fun w o => (Below.refl _ _).alloc (Nat.le_refl _) o
  have HV := dHide fun W (hb : Below w.heap.size w W) => hv.below hb
  have C1 := dHide fun W (hb : Below w.heap.size w W) => specCfg_any sv ds cop W (hv.below hb)
  obtain ⟨-, a, cap, rfl, -, -⟩ := hv
  have PY : Hid (cfgP ds cop → cfgM ds cop = (cfgB ds cop, true)) := cfgM_yes
  have PN : Hid (¬ cfgP ds cop → cfgM ds cop = ([], false)) := cfgM_no
  generalize cfgM ds cop = M at *
  have X0 := Bx.new w [.slice a ds.length cap, .int .i64 cop] 29
  have B0 := ba w (.cells #[.slice a ds.length cap, .int .i64 cop] 29)
  go_enter Try.func8, Try.ntmps8
  go_wp2_with fail
  generalize w.alloc (.cells #[.slice a ds.length cap, .int .i64 cop] 29) = w0 at *
  refine (dUnhide C1 _ B0).mono ?_
  rintro e w1 ⟨hr1, b1⟩
  have B1 := belowThen B0 b1
  have X1 := X0.below b1
  have k0 := X1 0 _ rfl
  have k1 := X1 1 _ rfl
  have HX := dHide X1
  clear X0 B0 b1 C1 X1
  by_cases hs : cfgP ds cop
  · obtain rfl := hr1.of_yes hs
    have eM := dUnhide PY hs
    obtain ⟨⟨p1, p2⟩, ⟨p3, p4⟩, p5⟩ := hs
    have hn : natI ds := fun x hx => by
      obtain ⟨i, hi, rfl⟩ := List.getElem_of_mem hx
      have := p5 i hi
      omega
    obtain ⟨n, rfl⟩ := Int.eq_ofNat_of_zero_le (show 0 ≤ cop by omega)
    have ES : cfgB ds (n : Int) = lstB ds ++ numB n := rfl
    rw [ES] at eM
    subst eM
    have HN := dHide fun W (hb : Below w1.heap.size w1 W) => list_at (.slice a ds.length cap) ds w1 W (dUnhide HV W (belowThen B1 hb)) hn (by omega) hb
    have hll := lstB_len ds
    have hnl := numB_len n
    have hbr : Below w1.heap.size w1 w1.drew := (Below.refl _ _).drew
    have HC : Hid (∀ W, Below w1.heap.size w1 W → W.cell? ⟨w.heap.size, 0, none⟩ = some (.slice a ds.length cap) ∧ W.cell? ⟨w.heap.size, 1, none⟩ = some (.int .i64 (n : Int))) := fun W hb => ⟨((dUnhide HX).below hb) 0 _ rfl, ((dUnhide HX).below hb) 1 _ rfl⟩
    clear hr1 p5 HV HX hn PY PN ES
    go_wp2_with fail
    go_cut [2, 3] (fun ov s3 wx => s3 = .bool true ∧ wx.ownsRow w1.heap.size 5 1 ov (lstB ds ++ numB n).length (bcells (lstB ds ++ numB n)) ∧ Below w1.heap.size w1 wx)
    case first =>
      go_region_held3 (fun W => W.cell? ⟨w.heap.size, 0, none⟩ = some (.slice a ds.length cap) ∧ W.cell? ⟨w.heap.size, 1, none⟩ = some (.int .i64 (n : Int))) (first | exact ⟨q20, q22⟩ | exact ⟨q30, q32⟩ | exact ⟨q40, q42⟩ | go_keep)
        (first
          | (go_at_call 36; refine (dUnhide HN _ (by assumption)).mono ?_; rintro e w2 ⟨g2, c2, rfl, o2, r2, b2⟩; obtain ⟨q20, q22⟩ := dUnhide HC w2 b2)
          | (go_at_call 37; refine (put_at n (by omega) w1 _ (by assumption)).mono ?_; rintro e w3 ⟨g3, c3, rfl, o3, r3, b3⟩; obtain ⟨q30, q32⟩ := dUnhide HC w3 b3; have o2' := own_kept o2 r3)
          | (refine step_app8 rfl _ _ rfl w1.heap.size _ (lstB ds) rfl o2' _ _ _ (numB n) rfl o3 (by omega) b3.size ?_; intro v4 w4 o4 r4; have b4 := b3.grown r4 b3.size (fun k hk => (o2'.lt k hk).1); obtain ⟨q40, q42⟩ := dUnhide HC w4 b4))
      all_goals
        go_wp2_with fail
        go_meet
        case rel => exact ⟨rfl, o4, b4⟩
    case rest =>
      obtain ⟨rfl, ho, hb⟩ := hcut
      have Q2 := dHide (own_mono ho B1.size)
      have Q := dHide (ownB_of_row (dUnhide Q2))
      have BF := belowThen B1 hb
      clear ho hb HC HN
      go_wp2
      go_ret2
      refine ⟨⟨_, rfl, dUnhide Q, fun _ => ?_⟩, BF⟩
      first | exact dUnhide Q2 | (have q := dUnhide Q2; rw [List.length_append] at q; exact q)
  · obtain rfl := hr1.of_no hs
    have eM := dUnhide PN hs
    subst eM
    clear hr1 hs HV HX PY PN
    go_wp2
    go_ret2
    exact ⟨⟨_, rfl, by simp, _, _, rfl, by simp, .inl rfl⟩, B1.alloc B1.size _⟩
end Go.Proofs.Ytioocibgfhgkhaa
