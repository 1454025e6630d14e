/- Records as bytes: impl's WriterPack. -/
import Derived.Test.YtioocibgfhgkhaaPiH
namespace Go.Proofs.Ytioocibgfhgkhaa
open Go.ChangeShapes Go.WideShapes Go.ChangeAt Go.RowKit
set_option linter.unusedVariables false
set_option linter.unusedSimpArgs false
set_option maxRecDepth 100000

set_option maxHeartbeats 2000000 in
theorem writerForm1_any (c : List Int × Int) (ca : Option Addr) (cc : Nat) (m : Wt) (a : Option Addr) (cap cb : Nat) (w : World) (hc : RdConfig (.agg #[.slice ca c.1.length cc, .int .i64 c.2]) c w) (hv : RdWriter (.agg #[.int .i64 m.epoch, .slice a m.words.length cap]) m w) (okc : okConfig c) (ok : okWriter m) (hsc : sizConfig c ≤ 1048576) (hs : sizWriter m ≤ 1048576) (X : Bx w cb [.slice ca c.1.length cc, .int .i64 c.2]) :
    Calls Try.prog 83 #[.agg #[.int .i64 m.epoch, .slice a m.words.length cap], .pointer (some ⟨cb, 0, none⟩)] w fun r w' => RetB (wrP c.1 c.2 m) r ∧ Below w.heap.size w w' := by
  have ba : ∀ (w : World) o, Below w.heap.size w (w.alloc o) := fun w o => (Below.refl _ _).alloc (Nat.le_refl _) o
  have CO := dHide fun W (hb : Below w.heap.size w W) => implWriterOk_any _ _ c m W (hc.below hb) (hv.below hb) okc ok hsc hs
  generalize wrP c.1 c.2 m = P at *
  have B0 := ba w (.cells #[.int .i64 m.epoch, .slice a m.words.length cap] 55)
  have X1 := X.below B0
  have k0 := X1 0 _ rfl
  have k1 := X1 1 _ rfl
  clear hv hc ba X X1
  go_enter Try.func83, Try.ntmps83
  go_wp2_with fail
  refine (dUnhide CO _ B0).mono ?_
  rintro e w1 ⟨⟨b1, rfl, h1⟩, hb1⟩
  have R : RetB P (.returned (.bool b1)) := ⟨b1, rfl, h1⟩
  have B1 := belowThen B0 hb1
  clear CO hb1 B0 h1 k0 k1
  go_wp2
  go_ret
  exact ⟨R, B1⟩
theorem wdAcks_len (m : Wt) (hs : sizWriter m ≤ 1048576) : ∀ e ∈ m.words, e.acks.length ≤ 1048576 := fun e he => by
  obtain ⟨i, hi, rfl⟩ := List.getElem_of_mem he
  have h1 := sumW_mem hi
  unfold sizWriter sizWordS at hs
  omega
theorem wds_take_len (m : Wt) (hs : sizWriter m ≤ 1048576) (hev : ∀ e ∈ m.words, natI e.acks ∧ e.data.size ≤ 40) (k : Nat) : ((m.words.take k).flatMap wdB).length ≤ 100000000 := by
  have h1 := wdsB_len (m.words.take k)
  have h2 := sumW_le m.words k
  have h4 := sumX_le m.words k
  have h3 : (m.words.take k).length ≤ m.words.length := by rw [List.length_take]; omega
  unfold sizWriter sizWordS at hs
  omega
set_option maxHeartbeats 4000000 in
theorem implWriterPack_any (cv v : Value) (c : List Int × Int) (m : Wt) (w : World) (hcv : RdConfig cv c w) (hv : RdWriter v m w) (okc : okConfig c) (ok : okWriter m) (hsc : sizConfig c ≤ 1048576) (hs : sizWriter m ≤ 1048576) :
    Calls Try.prog 25 #[cv, v] w fun e w' => (∃ u, e = .returned (.tuple #[u, .bool (wtM c.1 c.2 m).2]) ∧ OwnX w' w.heap.size u (wtM c.1 c.2 m).1) ∧ Below w.heap.size w w' := by
  have hcv0 := hcv
  have hv0 := hv
  obtain ⟨ca, cc, rfl, hcl⟩ := formConfig hcv
  obtain ⟨sv, rfl, rs, hm, hr, hn⟩ := hv
  have hlen : rs.length = m.words.length := by rw [← hm, List.length_map]
  have HR := fun W (hb : Below w.heap.size w W) => hr.below hb
  have HN := fun W (hb : Below w.heap.size w W) k (hk : k < rs.length) => (hn _ (List.getElem_mem hk)).below hb
  obtain ⟨-, a, cap, rfl, -, -⟩ := hr
  rw [hlen] at hv0 ⊢
  refine implWriterPack_face c ca cc m a cap w fun W cb hW hX => ?_
  refine packWriter_any cb m.epoch a m.words.length cap (wrP c.1 c.2 m) (wtM c.1 c.2 m) (wtB m) wtM_yes wtM_no W (fun W' hb' => writerForm1_any c ca cc m a cap cb W' (hcv0.below (belowThen hW hb')) (hv0.below (belowThen hW hb')) okc ok hsc hs (hX.below hb')) fun hP W' hb' => ?_
  have hev : ∀ e ∈ m.words, natI e.acks ∧ e.data.size ≤ 40 := fun e he => by
    obtain ⟨i, hi, rfl⟩ := List.getElem_of_mem he
    obtain ⟨q1, q2, -⟩ := hP.2.2.2.1 i hi
    exact ⟨natI_nodes q2, q1⟩
  have htr : 0 ≤ m.epoch ∧ m.epoch ≤ 30 := ⟨by have := hP.2.1; omega, hP.2.1.2⟩
  obtain ⟨n0, hn0⟩ := Int.eq_ofNat_of_zero_le htr.1
  have hsz2 : m.words.length ≤ 1048576 := by unfold sizWriter sizWordS at hs; omega
  rw [hn0]
  have C := addWriter_x W'.heap.size W' (.slice none 0 0) [] n0 (by omega) a cap rs (by have := hsz2; omega) (by rw [hm]; exact wds_take_len m hs hev) (fun W2 hb2 => by have := HR W2 (belowThen (belowThen hW hb') hb2); exact this) (fun k hk u xs W2 hb2 ho hx hB => by
    have hmem : rs[k].m ∈ m.words := by rw [← hm]; exact List.mem_map.2 ⟨_, List.getElem_mem hk, rfl⟩
    have g := hev _ hmem
    have hnl := wdAcks_len m hs _ hmem
    have HNk := fun W3 (h3 : Below W'.heap.size W' W3) => HN W3 (belowThen (belowThen hW hb') h3) k hk
    generalize rs[k] = y at *
    obtain ⟨ya, yc, ⟨da, ns, dn⟩⟩ := y
    simp only [Sv] at g hnl HNk ⊢
    have hd : da.size ≤ 40 := g.2
    have := addWord_x W'.heap.size W' u xs da ya yc ns dn g.1 hnl (by omega) HNk hx W2 hb2 ho hB
    have e1 : wdB ⟨da, ns, dn⟩ = textB da.data.toList ++ lstB ns := rfl
    rw [e1]
    exact this) (by simp) W' (Below.refl _ _) (OwnX.nil _ _) (Nat.le_refl _)
  rw [← hlen]
  refine C.mono ?_
  rintro e w' ⟨v, rfl, O, T⟩
  refine ⟨v, rfl, ?_, T.below (by intro k hk; cases hk) (Below.refl _ _) (Nat.le_refl _)⟩
  rw [hm, hlen] at O
  simpa [wtB, hn0] using O
end Go.Proofs.Ytioocibgfhgkhaa
