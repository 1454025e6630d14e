/- Mends, as the exact laws handle them: measured, compared. -/
import Derived.Test.YtaamipmlalplbaaMnA
import Derived.Test.YtaamipmlalplbaaGaA
import Derived.Deep.RegionHeld3
import Derived.Deep.DeepCutAuto
namespace Go.Proofs.Ytaamipmlalplbaa
open Go.ChangeShapes Go.WideShapes Go.ChangeAt Go.RowKit
set_option linter.unusedVariables false
set_option linter.unusedSimpArgs false
set_option maxRecDepth 100000

theorem lft_neg {q : Int} {n : Nat} (h0 : 0 ≤ q) (h : lft q n < 0) : lft q n = -1 := by
  unfold lft at h ⊢
  split
  · rfl
  · rename_i h2; rw [if_neg h2] at h; omega
theorem szIntS_b (v : Value) (xs : List Int) (left : Int) (l0 : 0 ≤ left) (l1 : left ≤ 1048576) (w : World) (hv : Ns w v xs) :
    Calls Try.prog 13 #[v, .int .i64 left] w fun r w' => r = .returned (.int .i64 (lft left xs.length)) ∧ Below w.heap.size w w' :=
  (szIntS_any v xs left l0 l1 w hv).mono fun r w' ⟨h, e⟩ => ⟨h, by subst e; exact Below.refl _ _⟩
set_option maxHeartbeats 4000000 in
theorem eqIntSS_ (u v : Value) (m : List (List Int)) (w : World) (hu : RdIntSS u m w) (hv : RdIntSS v m w) :
    Calls Try.prog 63 #[u, v] w fun e w' => e = .returned (.bool true) ∧ Below w.heap.size w w' := by
  obtain ⟨rs, e1, hr, hn⟩ := hu
  obtain ⟨ss, e2, hs, hp⟩ := hv
  have el : rs.length = ss.length := by rw [← List.length_map (f := Nst.m), e1, ← e2, List.length_map]
  have em : Hid (∀ k (h : k < rs.length) (h' : k < ss.length), rs[k].m = ss[k].m) := fun k h h' => by
    have q1 : (rs.map Nst.m)[k]? = (ss.map Nst.m)[k]? := by rw [e1, e2]
    rw [List.getElem?_map, List.getElem?_map, List.getElem?_eq_getElem h, List.getElem?_eq_getElem h'] at q1
    simpa using q1
  have HU := dHide fun W (hb : Below w.heap.size w W) => hr.below hb
  have HV := dHide fun W (hb : Below w.heap.size w W) => hs.below hb
  have HN : Hid (∀ W, Below w.heap.size w W → ∀ k (hk : k < rs.length), Ns W (.slice rs[k].a rs[k].m.length rs[k].c) rs[k].m) := fun W hb k hk => (hn _ (List.getElem_mem hk)).below hb
  have HP : Hid (∀ W, Below w.heap.size w W → ∀ k (hk : k < ss.length), Ns W (.slice ss[k].a ss[k].m.length ss[k].c) ss[k].m) := fun W hb k hk => (hp _ (List.getElem_mem hk)).below hb
  obtain ⟨h0, a, cap, rfl, -, -⟩ := hr
  obtain ⟨h0', a', cap', rfl, -, -⟩ := hs
  rw [← el]
  have EL := dHide el
  clear hn hp e1 e2 el h0'
  go_enter Try.func63, Try.ntmps63
  go_wp2
  go_loopw [5] (fun i wr => ∃ k : Nat, i = .int .i64 (k : Int) ∧ k ≤ rs.length ∧ Below w.heap.size w wr) (fun i _ => rs.length - (intOf i).toNat)
  case atStart => exact ⟨0, rfl, Nat.zero_le _, Below.refl _ _⟩
  case round =>
    obtain ⟨k, rfl, hk, hb⟩ := hrel
    by_cases hlt : (k : Int) < (rs.length : Int)
    · have hkl : k < rs.length := by omega
      have hkl' : k < ss.length := by rw [← dUnhide EL]; exact hkl
      obtain ⟨b, off, rfl, hc⟩ := (dUnhide HU wr hb).ls hkl
      obtain ⟨b', off', rfl, hc'⟩ := (dUnhide HV wr hb).ls hkl'
      have c0 := hc k hkl
      have e0 := hc' k hkl'
      have em' := dUnhide em k hkl hkl'
      have CE : Hid (∀ W, Below wr.heap.size wr W → Calls Try.prog 21 #[.slice rs[k].a rs[k].m.length rs[k].c, .slice ss[k].a ss[k].m.length ss[k].c] W fun r w' => r = .returned (.bool true) ∧ Below W.heap.size W w') := fun W hB => eqIntS_yes _ _ rs[k].m W (dUnhide HN W (belowThen hb hB) k hkl) (by rw [em']; exact dUnhide HP W (belowThen hb hB) k hkl')
      generalize rs[k] = y at *
      generalize ss[k] = y' at *
      obtain ⟨ya, yc, yn⟩ := y
      obtain ⟨za, zc, zn⟩ := y'
      simp only at *
      clear hc hc' HU HV HN HP em em'
      have hbr : Below wr.heap.size wr wr.drew := (Below.refl _ _).drew
      have p0 := And.intro c0 e0
      have HE : Hid (∀ W, Below wr.heap.size wr W → W.cell? ⟨b, off + k, none⟩ = some (.slice ya yn.length yc) ∧ W.cell? ⟨b', off' + k, none⟩ = some (.slice za zn.length zc)) := fun W hB => ⟨(hB.cell (p := ⟨b, off + k, none⟩) (dCell_lt c0)).trans c0, (hB.cell (p := ⟨b', off' + k, none⟩) (dCell_lt e0)).trans e0⟩
      go_wp2_with fail
      go_region_held3 (fun W => W.cell? ⟨b, off + k, none⟩ = some (.slice ya yn.length yc) ∧ W.cell? ⟨b', off' + k, none⟩ = some (.slice za zn.length zc)) (first | exact p5 | exact p0 | exact dUnhide HE _ hbr | go_keep)
        (first
          | (go_at_call 21; refine (dUnhide CE _ hbr).mono ?_; rintro r w5 ⟨rfl, b5⟩; have hb5 := belowThen hbr b5; have p5 := dUnhide HE _ hb5))
      all_goals
        go_wp2
        go_roundw
        case rel => exact ⟨k + 1, by go_num, by omega, belowThen hb hb5⟩
        case measure => simp [intOf]; omega
    · clear HU HV HN HP em
      go_wp2
      go_ret
      exact ⟨rfl, hb⟩
set_option maxHeartbeats 4000000 in
theorem eqMend_ (u v : Value) (m : Mn) (w : World) (hu : RdMend u m w) (hv : RdMend v m w) :
    Calls Try.prog 46 #[u, v] w fun e w' => e = .returned (.bool true) ∧ Below w.heap.size w w' := by
  have hb0 : ∀ o o', Below w.heap.size w ((w.alloc o).alloc o') := fun o o' => ((Below.refl _ _).alloc (Nat.le_refl _) o).alloc (by simp) o'
  obtain ⟨s1, n1, w1, rfl, a1, a2, a3⟩ := hu
  obtain ⟨s2, n2, w2, rfl, b1, b2, b3⟩ := hv
  have C1 := dHide fun W (hb : Below w.heap.size w W) => eqIntS_yes s1 s2 m.sealed W (a1.below hb) (b1.below hb)
  have C2 := dHide fun W (hb : Below w.heap.size w W) => eqEntryS_ n1 n2 m.seen W (RdEntryS.below a2 hb) (RdEntryS.below b2 hb)
  have C3 := dHide fun W (hb : Below w.heap.size w W) => eqIntSS_ w1 w2 m.wrote W (RdK.below a3 hb) (RdK.below b3 hb)
  obtain ⟨-, sa, sc, rfl, -, -⟩ := a1
  obtain ⟨-, sa', sc', rfl, -, -⟩ := b1
  obtain ⟨ea, ec, rfl, -⟩ := formEntryS a2
  obtain ⟨ea', ec', rfl, -⟩ := formEntryS b2
  obtain ⟨wa, wc, rfl, -⟩ := formK a3
  obtain ⟨wa', wc', rfl, -⟩ := formK b3
  clear a2 a3 b2 b3
  generalize m.bye = f0 at *
  generalize m.epoch = f1 at *
  generalize m.planned = f4 at *
  generalize m.sealed.length = l2 at *
  generalize m.seen.length = l3 at *
  generalize m.wrote.length = l5 at *
  have X0 := (Bx.new w [.int .i64 f0, .int .i64 f1, .slice sa l2 sc, .slice ea l3 ec, .bool f4, .slice wa l5 wc] 78).below ((Below.refl _ _).alloc (Nat.le_refl _) (.cells #[.int .i64 f0, .int .i64 f1, .slice sa' l2 sc', .slice ea' l3 ec', .bool f4, .slice wa' l5 wc'] 78))
  have Y0 := Bx.new (w.alloc (.cells #[.int .i64 f0, .int .i64 f1, .slice sa l2 sc, .slice ea l3 ec, .bool f4, .slice wa l5 wc] 78)) [.int .i64 f0, .int .i64 f1, .slice sa' l2 sc', .slice ea' l3 ec', .bool f4, .slice wa' l5 wc'] 78
  have e1 : (w.alloc (.cells #[.int .i64 f0, .int .i64 f1, .slice sa l2 sc, .slice ea l3 ec, .bool f4, .slice wa l5 wc] 78)).heap.size = w.heap.size + 1 := by simp
  rw [e1] at Y0
  clear e1
  go_enter Try.func46, Try.ntmps46
  go_wp2_with fail
  refine (dUnhide C1 _ (hb0 _ _)).mono ?_
  rintro e w1 ⟨rfl, b1⟩
  have B1 := belowThen (hb0 _ _) b1
  have X1 := X0.below b1
  have Y1 := Y0.below b1
  have k3 := X1 3 _ rfl
  have j3 := Y1 3 _ rfl
  clear X0 Y0 b1 hb0 C1
  go_wp2_with fail
  refine (dUnhide C2 _ B1).mono ?_
  rintro e w2 ⟨rfl, b2⟩
  have B2 := belowThen B1 b2
  have X2 := X1.below b2
  have Y2 := Y1.below b2
  have k4 := X2 4 _ rfl
  have j4 := Y2 4 _ rfl
  have k5 := X2 5 _ rfl
  have j5 := Y2 5 _ rfl
  clear X1 Y1 b2 C2 k3 j3
  go_wp2_with fail
  refine (dUnhide C3 _ B2).mono ?_
  rintro e w3 ⟨rfl, b3⟩
  have B3 := belowThen B2 b3
  clear X2 Y2 b3 C3 k4 j4 k5 j5
  go_wp2
  go_ret
  exact ⟨rfl, B3⟩
end Go.Proofs.Ytaamipmlalplbaa
