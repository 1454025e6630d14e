/- Records as bytes: impl's RegPack. -/
import Derived.Test.YtioocibgfhgkhaaPiG
namespace Go.Proofs.Ytioocibgfhgkhaa
open Go.ChangeShapes Go.WideShapes Go.ChangeAt Go.RowKit
set_option linter.unusedVariables false
set_option linter.unusedSimpArgs false
set_option maxRecDepth 100000

set_option maxHeartbeats 2000000 in
theorem registerForm1_any (c : List Int × Int) (ca : Option Addr) (cc : Nat) (m : Rg) (a : Option Addr) (cap cb : Nat) (w : World) (hc : RdConfig (.agg #[.slice ca c.1.length cc, .int .i64 c.2]) c w) (hv : RdRegister (.agg #[.slice a m.eras.length cap, .int .i64 m.trim]) m w) (okc : okConfig c) (ok : okRegister m) (hsc : sizConfig c ≤ 1048576) (hs : sizRegister m ≤ 1048576) (X : Bx w cb [.slice ca c.1.length cc, .int .i64 c.2]) :
    Calls Try.prog 75 #[.agg #[.slice a m.eras.length cap, .int .i64 m.trim], .pointer (some ⟨cb, 0, none⟩)] w fun r w' => RetB (regP c.1 c.2 m) r ∧ Below w.heap.size w w' := by
  have ba : ∀ (w : World) o, Below w.heap.size w (w.alloc o) := fun w o => (Below.refl _ _).alloc (Nat.le_refl _) o
  have CO := dHide fun W (hb : Below w.heap.size w W) => implRegOk_any _ _ c m W (hc.below hb) (hv.below hb) okc ok hsc hs
  generalize regP c.1 c.2 m = P at *
  have B0 := ba w (.cells #[.slice a m.eras.length cap, .int .i64 m.trim] 43)
  have X1 := X.below B0
  have k0 := X1 0 _ rfl
  have k1 := X1 1 _ rfl
  clear hv hc ba X X1
  go_enter Try.func75, Try.ntmps75
  go_wp2_with fail
  refine (dUnhide CO _ B0).mono ?_
  rintro e w1 ⟨⟨b1, rfl, h1⟩, hb1⟩
  have R : RetB P (.returned (.bool b1)) := ⟨b1, rfl, h1⟩
  have B1 := belowThen B0 hb1
  clear CO hb1 B0 h1 k0 k1
  go_wp2
  go_ret
  exact ⟨R, B1⟩
theorem erNodes_len (m : Rg) (hs : sizRegister m ≤ 1048576) : ∀ e ∈ m.eras, e.nodes.length ≤ 1048576 := fun e he => by
  obtain ⟨i, hi, rfl⟩ := List.getElem_of_mem he
  have h1 := sumN_mem hi
  unfold sizRegister sizEraS at hs
  omega
theorem ers_take_len (m : Rg) (hs : sizRegister m ≤ 1048576) (hev : ∀ e ∈ m.eras, natI e.nodes ∧ 0 ≤ e.last ∧ e.last ≤ 60) (k : Nat) : ((m.eras.take k).flatMap erB).length ≤ 100000000 := by
  have h1 := ersB_len (m.eras.take k)
  have h2 := sumN_le m.eras k
  have h3 : (m.eras.take k).length ≤ m.eras.length := by rw [List.length_take]; omega
  unfold sizRegister sizEraS at hs
  omega
set_option maxHeartbeats 4000000 in
theorem implRegPack_any (cv v : Value) (c : List Int × Int) (m : Rg) (w : World) (hcv : RdConfig cv c w) (hv : RdRegister v m w) (okc : okConfig c) (ok : okRegister m) (hsc : sizConfig c ≤ 1048576) (hs : sizRegister m ≤ 1048576) :
    Calls Try.prog 19 #[cv, v] w fun e w' => (∃ u, e = .returned (.tuple #[u, .bool (rgM c.1 c.2 m).2]) ∧ OwnX w' w.heap.size u (rgM c.1 c.2 m).1) ∧ Below w.heap.size w w' := by
  have hcv0 := hcv
  have hv0 := hv
  obtain ⟨ca, cc, rfl, hcl⟩ := formConfig hcv
  obtain ⟨sv, rfl, rs, hm, hr, hn⟩ := hv
  have hlen : rs.length = m.eras.length := by rw [← hm, List.length_map]
  have HR := fun W (hb : Below w.heap.size w W) => hr.below hb
  have HN := fun W (hb : Below w.heap.size w W) k (hk : k < rs.length) => (hn _ (List.getElem_mem hk)).below hb
  obtain ⟨-, a, cap, rfl, -, -⟩ := hr
  rw [hlen] at hv0 ⊢
  refine implRegPack_face c ca cc m a cap w fun W cb hW hX => ?_
  refine packRegister_any cb a m.eras.length cap m.trim (regP c.1 c.2 m) (rgM c.1 c.2 m) (rgB m) rgM_yes rgM_no W (fun W' hb' => registerForm1_any c ca cc m a cap cb W' (hcv0.below (belowThen hW hb')) (hv0.below (belowThen hW hb')) okc ok hsc hs (hX.below hb')) fun hP W' hb' => ?_
  have hev : ∀ e ∈ m.eras, natI e.nodes ∧ 0 ≤ e.last ∧ e.last ≤ 60 := fun e he => by
    obtain ⟨i, hi, rfl⟩ := List.getElem_of_mem he
    obtain ⟨q1, q2, -, -⟩ := hP.2.2.2 i hi
    exact ⟨natI_holds q1, q2.1, q2.2⟩
  have htr : 0 ≤ m.trim := by
    obtain ⟨-, -, h3, -⟩ := hP
    rcases h3 with h3 | h3
    · omega
    · have := h3.1.1; omega
  have htr1 : m.trim ≤ 9223372036854775807 := ok.2.2
  obtain ⟨n0, hn0⟩ := Int.eq_ofNat_of_zero_le htr
  have hsz2 : m.eras.length ≤ 1048576 := by unfold sizRegister sizEraS at hs; omega
  rw [hn0]
  have C := addRegister_x W'.heap.size W' (.slice none 0 0) [] n0 (by omega) a cap rs (by have := hsz2; omega) (by rw [hm]; exact ers_take_len m hs hev) (fun W2 hb2 => by have := HR W2 (belowThen (belowThen hW hb') hb2); exact this) (fun k hk u xs W2 hb2 ho hx hB => by
    have hmem : rs[k].m ∈ m.eras := by rw [← hm]; exact List.mem_map.2 ⟨_, List.getElem_mem hk, rfl⟩
    have g := hev _ hmem
    have hnl := erNodes_len m hs _ hmem
    have HNk := fun W3 (h3 : Below W'.heap.size W' W3) => HN W3 (belowThen (belowThen hW hb') h3) k hk
    generalize rs[k] = y at *
    obtain ⟨ya, yc, ⟨ns, cl, la⟩⟩ := y
    simp only [Sv] at g hnl HNk ⊢
    obtain ⟨p0, rfl⟩ := Int.eq_ofNat_of_zero_le g.2.1
    have hp : p0 ≤ 60 := by have := g.2.2; omega
    have := addEra_x W'.heap.size W' u xs ya yc ns cl p0 g.1 hnl (by omega) HNk hx W2 hb2 ho hB
    have e1 : erB ⟨ns, cl, (p0 : Int)⟩ = (lstB ns ++ flgB cl) ++ numB p0 := by cases cl <;> rfl
    rw [e1]
    exact this) (by simp) W' (Below.refl _ _) (OwnX.nil _ _) (Nat.le_refl _)
  rw [← hlen]
  refine C.mono ?_
  rintro e w' ⟨v, rfl, O, T⟩
  refine ⟨v, rfl, ?_, T.below (by intro k hk; cases hk) (Below.refl _ _) (Nat.le_refl _)⟩
  rw [hm, hlen] at O
  simpa [rgB, hn0] using O
end Go.Proofs.Ytioocibgfhgkhaa
