/- Registers drawn: l7Draw (printed by tools/mkrgl.py). -/
import Derived.Test.YthndkkjgjhgdnaaGreatDoorGk76
import Derived.Deep.RegionLaw
namespace Go.Proofs.YthndkkjgjhgdnaaGreatDoor
open Go.ChangeShapes Go.WideShapes Go.ChangeAt Go.RowKit
set_option linter.unusedVariables false
set_option linter.unusedSimpArgs false
set_option maxRecDepth 100000

section
variable {ops : Array Oper} {rest : List Oper} {o : Oper} {a : Act} {Q : Exit → Act → World → Prop} {w w' : World}
theorem wp_appRunR (hgd : o.guard = none) (s x : Operand) (T1 T2 : TypeId) (ho : o.op = .call { callee := .builtin .append, args := #[s, x], argTypes := #[T1, T2] }) (v u : Value) (hs : a.eval s = v) (hx : a.eval x = u) {v' : Value}
    (hr : (Builtin.append_ #[T1, T2] o.type #[v, u]).run Tryz.prog w = .ok v' w') (h : wpList Tryz.prog ops Q rest (a.put o.dst v') w') : wpList Tryz.prog ops Q (o :: rest) a w := by
  refine wpList_plain hgd fun K' hK' => ?_
  unfold Oper.wp
  simp [execOp, ho, resolve, invoke, builtin, hs, hx, hr, Result.andThen]
  exact hK' _ _ h
end
theorem Full.touched {W : World} {lo j : Nat} {v : Value} (h : Full W lo v) (hj : touch v = some j) : lo ≤ j ∧ j < W.heap.size := by
  rcases h with ⟨a, rfl⟩ | ⟨g, n, cap, cur, rfl, h0, hg, -⟩
  · cases a <;> simp [touch] at hj
  · have hlt := (Array.getElem?_eq_some_iff.1 hg).1
    by_cases hc : cap = 0
    · simp [touch, hc] at hj
    · simp [touch, hc] at hj
      subst hj
      exact ⟨h0, hlt⟩
theorem touch_block {a : Option Addr} {n c j : Nat} (h : touch (.slice a n c) = some j) : blockOf (.slice a n c) = j := by
  cases a with
  | none => simp [touch] at h
  | some x =>
    by_cases hc : c = 0
    · simp [touch, hc] at h
    · simpa [touch, hc, blockOf] using h
theorem fitD.setE {n n' k : Nat} {m : Rg} {e : Er} (h : fitD n m) (hn : n ≤ n') (he : fitD1 e) : fitD n' ⟨m.eras.set k e, m.trim⟩ :=
  ⟨by simp only [List.length_set]; exact Nat.le_trans h.1 hn, fun y hy => by
    rcases List.mem_or_eq_of_mem_set hy with hy | hy
    · exact h.2.1 y hy
    · rw [hy]; exact he, h.2.2⟩
/-- The list of one era is put into its place. -/
theorem OwK.putN {lo hi : Nat} {a : Option Addr} {n cap : Nat} {ms : List Er} {w : World} (h : OwEraS lo hi (.slice a n cap) ms w) {k : Nat} (hk : k < ms.length) :
    ∃ b off, a = some ⟨b, off, none⟩ ∧ lo ≤ b ∧ b < hi ∧ (∃ q0, w.cell? ⟨b, off + k * 3, none⟩ = some q0) ∧ w.frozen? ⟨b, off + k * 3, none⟩ = false ∧
      ∀ (ua : Option Addr) (uc : Nat) (zs : List Int), OwnN w lo (.slice ua zs.length uc) zs → (zs = [] ∨ blockOf (.slice ua zs.length uc) ≠ b) → RdO lo (.slice a n cap) (ms.set k ⟨zs, ms[k].closed, ms[k].last⟩) (w.setCell ⟨b, off + k * 3, none⟩ (.slice ua zs.length uc)) := by
  obtain ⟨rs, rfl, hO, hB, hN, hA⟩ := h
  have hkl : k < rs.length := by simpa using hk
  have hlen := hO.rw
  obtain ⟨hmx, a0, c0, e0, hcap, -⟩ := hlen
  cases e0
  obtain ⟨b, off, rfl, hb1, Z0⟩ := hO.rowG (by omega) zeroEr
  have hb2 : b < hi := by
    rcases hB with h | h
    · subst h; simp at hkl
    · exact h
  have e1 : rs.getD k zeroEr = rs[k] := getD_lt _ hkl
  have em : (rs.map Nst.m)[k] = rs[k].m := List.getElem_map ..
  have c := fun j u hu => Z0 k hkl j u (by dsimp only; rw [e1]; exact hu)
  refine ⟨b, off, rfl, hb1, hb2, ⟨_, (c 0 _ rfl).1⟩, (c 0 _ rfl).2, fun ua uc zs hu hub => ?_⟩
  rw [em]
  have r := Z0.put erCl_len hkl 0 (by decide) (.slice ua zs.length uc) ⟨ua, uc, zs, rs[k].m.closed, rs[k].m.last⟩ (by rw [e1]; rfl)
  refine ⟨rs.set k ⟨ua, uc, zs, rs[k].m.closed, rs[k].m.last⟩, by rw [List.map_set], ⟨by rw [List.length_set]; exact hmx, some ⟨b, off, none⟩, cap, by rw [List.length_set], by rw [List.length_set]; exact hcap, .inr ⟨b, off, rfl, hb1, fun i hi j u hj => ?_⟩⟩, fun p hp => ?_⟩
  · have hi' : i < rs.length := by simpa using hi
    have := r i hi' j u (by
      by_cases e : i = k
      · subst e; rw [putG_same]; simpa using hj
      · rw [putG_ne _ _ e]; (try dsimp only); rw [getD_lt _ hi']; rwa [List.getElem_set_ne (Ne.symm e)] at hj)
    simpa using this
  · rcases List.mem_or_eq_of_mem_set hp with hp | hp
    · obtain ⟨i, hi', rfl⟩ := List.mem_iff_getElem.1 hp
      exact ((hN _ hp).putW (hA.2 i hi') _).1
    · rw [hp]
      exact OwnN.setNe hu hub _
set_option maxHeartbeats 16000000 in
theorem l7Draw_any (bk : Nat) (ca : Option Addr) (cc : Nat) (ds : List Int) (cop : Int) (w : World) (hc : Cur w bk) (hv : Ns w (.slice ca ds.length cc) ds) (hl : ds.length ≤ 9) (hne : ds = [] ∨ blockOf (.slice ca ds.length cc) ≠ bk) :
    Calls Tryz.prog 46 #[.pointer (some ⟨bk, 0, none⟩), .agg #[.slice ca ds.length cc, .int .i64 cop]] w fun e w' => (∃ (u : Value) (m : Rg), e = .returned u ∧ (∃ sv, u = .agg #[sv, .int .i64 m.trim] ∧ RdO w.heap.size sv m.eras w') ∧ fitD 40 m) ∧ Cur w' bk ∧ Drawn bk w w' := by
  have ba : ∀ (w : World) o, Below w.heap.size w (w.alloc o) := fun w o => (Below.refl _ _).alloc (Nat.le_refl _) o
  have hk := hc.lt
  have hw := hv.lt
  have b1 := ba w (.cells #[.slice ca ds.length cc, .int .i64 cop] 26)
  have b2 := ba (w.alloc (.cells #[.slice ca ds.length cc, .int .i64 cop] 26)) (.cells #[.slice none 0 0, .int .i64 0] 29)
  have bb := belowThen b1 b2
  have e1 : (w.alloc (.cells #[.slice ca ds.length cc, .int .i64 cop] 26)).heap.size = w.heap.size + 1 := by simp
  have e2 : ((w.alloc (.cells #[.slice ca ds.length cc, .int .i64 cop] 26)).alloc (.cells #[.slice none 0 0, .int .i64 0] 29)).heap.size = w.heap.size + 2 := by simp
  have X0 := (Bx.new w [.slice ca ds.length cc, .int .i64 cop] 26).below b2
  have R0 := BxZ.new (B := w.heap.size) (w.alloc (.cells #[.slice ca ds.length cc, .int .i64 cop] 26)) [.slice none 0 0, .int .i64 0] 29 (by rw [e1]; omega)
  rw [e1] at R0
  have hc0 := hc.below bb
  have hv0 := hv.below bb
  have D0 := Drawn.of_below (bk := bk) bb
  have x0 := X0 0 _ rfl
  have x1 := X0 1 _ rfl
  clear b1 b2 bb hc hv e1
  go_enter Tryz.func46, Tryz.ntmps46
  go_wp2_with fail
  generalize (w.alloc (.cells #[.slice ca ds.length cc, .int .i64 cop] 26)).alloc (.cells #[.slice none 0 0, .int .i64 0] 29) = w0 at *
  refine (l7DrawRight_any bk ca cc ds cop w0 hc0 hv0 hl hne).mono ?_
  rintro e w1 ⟨⟨m, a, c, rfl, O1, F1, fit1⟩, hc1, hd1⟩
  have hs1 := hd1.size
  have hel : m.eras.length ≤ 7 := fit1.1
  have TB : Hid (∀ j, touch (.slice a m.eras.length c) = some j → j < w1.heap.size) := fun j hj => (F1.touched hj).2
  have bA := ba w1 (.cells #[.slice a m.eras.length c, .int .i64 m.trim] 29)
  have DB2 := DB.made O1 F1 (Nat.le_refl _)
  have cfg2 := (X0.drawn hd1 (by omega)).below bA
  have res2 := (R0.drawn hd1 (by omega)).below bA
  have ns2 := (hv0.drawn hd1 hne).below bA
  have hc2 := hc1.below bA
  have D2 := (D0.trans hd1).trans (Drawn.of_below bA)
  have kk0 := (DB2.box.2 0 _ rfl).1
  clear x0 x1 X0 R0 hc0 hv0 D0 O1 F1 hc1 hd1 bA
  go_wp2_with fail
  generalize hrb : w1.heap.size = rb at *
  generalize w1.alloc (.cells #[.slice a m.eras.length c, .int .i64 m.trim] 29) = w2 at *
  refine (l1Below_any bk 25 (by omega) (by omega) _ hc2).mono ?_
  rintro r w3 ⟨⟨x, hx, rfl⟩, hc3, hd3⟩
  have DB3 := DB2.drawn hd3 (by omega) (by omega)
  have cfg3 := cfg2.drawn hd3 (by omega)
  have res3 := res2.drawn hd3 (by omega)
  have ns3 := ns2.drawn hd3 hne
  have D3 := D2.trans hd3
  clear kk0 DB2 cfg2 res2 ns2 hc2 D2 hd3 hrb
  by_cases hx0 : x = 0
  · subst hx0
    have kk0 := (DB3.box.2 0 _ rfl).1
    go_wp2_with fail
    refine (l1DrawPlace_any bk w3 hc3).mono ?_
    rintro r w4 ⟨⟨p, hp, rfl⟩, hc4, hd4⟩
    have DB4 := DB3.drawn hd4 (by omega) (by omega)
    have res4 := res3.drawn hd4 (by omega)
    have D4 := D3.trans hd4
    obtain ⟨g0, h0⟩ := DB4.box.2 0 _ rfl
    obtain ⟨g1, h1⟩ := DB4.box.2 1 _ rfl
    have hres := res4.far (b' := rb) (o := 1) (by omega) (.int .i64 p)
    have hbox := DB4.box.put 1 (.int .i64 p)
    have hrd := RdO.of (OwK.setE (b := rb) (o := 1) DB4.own DB4.fit DB4.apart (.int .i64 p))
    have hcur := hc4.setNew4 (b := rb) (by omega) 1 (.int .i64 p)
    have hdr := D4.setNew (b := rb) (by omega) 1 (.int .i64 p)
    have hfit : fitD 40 ⟨m.eras, p⟩ := ⟨Nat.le_trans fit1.1 (by omega), fit1.2.1, hp⟩
    clear DB4 DB3 res3 res4 D3 D4 hc3 hc4 hd4 kk0
    obtain ⟨z0, f0⟩ := hres.2 0 _ rfl
    obtain ⟨z1, f1⟩ := hres.2 1 _ rfl
    have k0 := (hbox.2 0 _ rfl).1
    have k1 := (hbox.2 1 _ rfl).1
    have ZZ := dHide ((hres.put 0 (.slice a m.eras.length c)).put 1 (.int .i64 p))
    have OO := dHide ((hrd.far (b := w.heap.size + 1) (o := 0) (by omega) (.slice a m.eras.length c)).far (b := w.heap.size + 1) (o := 1) (by omega) (.int .i64 p))
    have CC := dHide ((hcur.setNew4 (b := w.heap.size + 1) (by omega) 0 (.slice a m.eras.length c)).setNew4 (b := w.heap.size + 1) (by omega) 1 (.int .i64 p))
    have DD := dHide ((hdr.setNew (b := w.heap.size + 1) (by omega) 0 (.slice a m.eras.length c)).setNew (b := w.heap.size + 1) (by omega) 1 (.int .i64 p))
    have FF := dHide hfit
    clear hres hbox hrd hcur hdr hfit
    go_wp2_with fail
    generalize ((w4.setCell ⟨rb, 1, none⟩ (.int .i64 p)).setCell ⟨w.heap.size + 1, 0, none⟩ (.slice a m.eras.length c)).setCell ⟨w.heap.size + 1, 1, none⟩ (.int .i64 p) = V at *
    have q0 := ((dUnhide ZZ).2 0 _ rfl).1
    have q1 := ((dUnhide ZZ).2 1 _ rfl).1
    refine bodyPost_ret (v := .agg #[.slice a m.eras.length c, .int .i64 p]) (by simp [results, Tryz.results46, go_sem, q0, q1]) rfl ?_
    first | exact ⟨⟨_, ⟨m.eras, p⟩, rfl, ⟨_, rfl, (dUnhide OO).mono (by omega)⟩, dUnhide FF⟩, dUnhide CC, dUnhide DD⟩ | exact ⟨⟨_, rfl, ⟨m.eras, p⟩, ⟨_, rfl, (dUnhide OO).mono (by omega)⟩, dUnhide FF⟩, dUnhide CC, dUnhide DD⟩ | exact ⟨⟨⟨m.eras, p⟩, ⟨_, rfl, (dUnhide OO).mono (by omega)⟩, dUnhide FF⟩, dUnhide CC, dUnhide DD⟩
  by_cases hx1 : x = 1
  · subst hx1
    by_cases hn : (0 : Int) < (m.eras.length : Int)
    case neg =>
      have hres := res3
      have hbox := DB3.box
      have hrd := RdO.of DB3.own
      have hcur := hc3
      have hdr := D3
      have hfit := fit1.more (show 7 ≤ 40 by omega)
      obtain ⟨z0, f0⟩ := hres.2 0 _ rfl
      obtain ⟨z1, f1⟩ := hres.2 1 _ rfl
      have k0 := (hbox.2 0 _ rfl).1
      have k1 := (hbox.2 1 _ rfl).1
      have ZZ := dHide ((hres.put 0 (.slice a m.eras.length c)).put 1 (.int .i64 m.trim))
      have OO := dHide ((hrd.far (b := w.heap.size + 1) (o := 0) (by omega) (.slice a m.eras.length c)).far (b := w.heap.size + 1) (o := 1) (by omega) (.int .i64 m.trim))
      have CC := dHide ((hcur.setNew4 (b := w.heap.size + 1) (by omega) 0 (.slice a m.eras.length c)).setNew4 (b := w.heap.size + 1) (by omega) 1 (.int .i64 m.trim))
      have DD := dHide ((hdr.setNew (b := w.heap.size + 1) (by omega) 0 (.slice a m.eras.length c)).setNew (b := w.heap.size + 1) (by omega) 1 (.int .i64 m.trim))
      have FF := dHide hfit
      clear hres hbox hrd hcur hdr hfit
      go_wp2_with fail
      generalize (w3.setCell ⟨w.heap.size + 1, 0, none⟩ (.slice a m.eras.length c)).setCell ⟨w.heap.size + 1, 1, none⟩ (.int .i64 m.trim) = V at *
      have q0 := ((dUnhide ZZ).2 0 _ rfl).1
      have q1 := ((dUnhide ZZ).2 1 _ rfl).1
      refine bodyPost_ret (v := .agg #[.slice a m.eras.length c, .int .i64 m.trim]) (by simp [results, Tryz.results46, go_sem, q0, q1]) rfl ?_
      first | exact ⟨⟨_, m, rfl, ⟨_, rfl, (dUnhide OO).mono (by omega)⟩, dUnhide FF⟩, dUnhide CC, dUnhide DD⟩ | exact ⟨⟨_, rfl, m, ⟨_, rfl, (dUnhide OO).mono (by omega)⟩, dUnhide FF⟩, dUnhide CC, dUnhide DD⟩ | exact ⟨⟨m, ⟨_, rfl, (dUnhide OO).mono (by omega)⟩, dUnhide FF⟩, dUnhide CC, dUnhide DD⟩
    · obtain ⟨k, hk'⟩ : ∃ k, k + 1 = m.eras.length := ⟨m.eras.length - 1, by omega⟩
      have hkl : k < m.eras.length := by omega
      obtain ⟨b, off, rfl, hb1, hb2, ⟨q0, q1, q2, j0, j1, j2⟩, hfz, W1, -⟩ := OwK.put DB3.own hkl
      have fz1 := hfz 1 (by decide)
      have ek : ((m.eras.length : Int) - 1) = (k : Int) := by omega
      clear hk'
      have hrb : b < rb := by omega
      have kk0 := (DB3.box.2 0 _ rfl).1
      have hres := res3.far (b' := b) (o := off + k * 3 + 1) (by omega) (.bool true)
      have hbox := DB3.box.far (b' := b) (o := off + k * 3 + 1) (by omega) (.bool true)
      have hrd := RdO.of (W1 true)
      have hcur := hc3.setNew4 (b := b) (by omega) (off + k * 3 + 1) (.bool true)
      have hdr := D3.setNew (b := b) (by omega) (off + k * 3 + 1) (.bool true)
      have hfit : fitD 40 ⟨m.eras.set k ⟨m.eras[k].nodes, true, m.eras[k].last⟩, m.trim⟩ := fit1.setE (by omega) (by have := fit1.2.1 _ (List.getElem_mem hkl); exact ⟨this.1, this.2.1, this.2.2⟩)
      clear W1 hfz DB3 res3 hc3 D3
      obtain ⟨z0, f0⟩ := hres.2 0 _ rfl
      obtain ⟨z1, f1⟩ := hres.2 1 _ rfl
      have k0 := (hbox.2 0 _ rfl).1
      have k1 := (hbox.2 1 _ rfl).1
      have ZZ := dHide ((hres.put 0 (.slice (some ⟨b, off, none⟩) m.eras.length c)).put 1 (.int .i64 m.trim))
      have OO := dHide ((hrd.far (b := w.heap.size + 1) (o := 0) (by omega) (.slice (some ⟨b, off, none⟩) m.eras.length c)).far (b := w.heap.size + 1) (o := 1) (by omega) (.int .i64 m.trim))
      have CC := dHide ((hcur.setNew4 (b := w.heap.size + 1) (by omega) 0 (.slice (some ⟨b, off, none⟩) m.eras.length c)).setNew4 (b := w.heap.size + 1) (by omega) 1 (.int .i64 m.trim))
      have DD := dHide ((hdr.setNew (b := w.heap.size + 1) (by omega) 0 (.slice (some ⟨b, off, none⟩) m.eras.length c)).setNew (b := w.heap.size + 1) (by omega) 1 (.int .i64 m.trim))
      have FF := dHide hfit
      clear hres hbox hrd hcur hdr hfit
      go_wp2_with fail
      generalize ((w3.setCell ⟨b, off + k * 3 + 1, none⟩ (.bool true)).setCell ⟨w.heap.size + 1, 0, none⟩ (.slice (some ⟨b, off, none⟩) m.eras.length c)).setCell ⟨w.heap.size + 1, 1, none⟩ (.int .i64 m.trim) = V at *
      have q0 := ((dUnhide ZZ).2 0 _ rfl).1
      have q1 := ((dUnhide ZZ).2 1 _ rfl).1
      refine bodyPost_ret (v := .agg #[.slice (some ⟨b, off, none⟩) m.eras.length c, .int .i64 m.trim]) (by simp [results, Tryz.results46, go_sem, q0, q1]) rfl ?_
      first | exact ⟨⟨_, (Rg.mk (m.eras.set k (Er.mk m.eras[k].nodes true m.eras[k].last)) m.trim), rfl, ⟨_, rfl, (dUnhide OO).mono (by omega)⟩, dUnhide FF⟩, dUnhide CC, dUnhide DD⟩ | exact ⟨⟨_, rfl, (Rg.mk (m.eras.set k (Er.mk m.eras[k].nodes true m.eras[k].last)) m.trim), ⟨_, rfl, (dUnhide OO).mono (by omega)⟩, dUnhide FF⟩, dUnhide CC, dUnhide DD⟩ | exact ⟨⟨(Rg.mk (m.eras.set k (Er.mk m.eras[k].nodes true m.eras[k].last)) m.trim), ⟨_, rfl, (dUnhide OO).mono (by omega)⟩, dUnhide FF⟩, dUnhide CC, dUnhide DD⟩
  by_cases hx2 : x = 2
  · subst hx2
    by_cases hn : (0 : Int) < (m.eras.length : Int)
    case neg =>
      have hres := res3
      have hbox := DB3.box
      have hrd := RdO.of DB3.own
      have hcur := hc3
      have hdr := D3
      have hfit := fit1.more (show 7 ≤ 40 by omega)
      obtain ⟨z0, f0⟩ := hres.2 0 _ rfl
      obtain ⟨z1, f1⟩ := hres.2 1 _ rfl
      have k0 := (hbox.2 0 _ rfl).1
      have k1 := (hbox.2 1 _ rfl).1
      have ZZ := dHide ((hres.put 0 (.slice a m.eras.length c)).put 1 (.int .i64 m.trim))
      have OO := dHide ((hrd.far (b := w.heap.size + 1) (o := 0) (by omega) (.slice a m.eras.length c)).far (b := w.heap.size + 1) (o := 1) (by omega) (.int .i64 m.trim))
      have CC := dHide ((hcur.setNew4 (b := w.heap.size + 1) (by omega) 0 (.slice a m.eras.length c)).setNew4 (b := w.heap.size + 1) (by omega) 1 (.int .i64 m.trim))
      have DD := dHide ((hdr.setNew (b := w.heap.size + 1) (by omega) 0 (.slice a m.eras.length c)).setNew (b := w.heap.size + 1) (by omega) 1 (.int .i64 m.trim))
      have FF := dHide hfit
      clear hres hbox hrd hcur hdr hfit
      go_wp2_with fail
      generalize (w3.setCell ⟨w.heap.size + 1, 0, none⟩ (.slice a m.eras.length c)).setCell ⟨w.heap.size + 1, 1, none⟩ (.int .i64 m.trim) = V at *
      have q0 := ((dUnhide ZZ).2 0 _ rfl).1
      have q1 := ((dUnhide ZZ).2 1 _ rfl).1
      refine bodyPost_ret (v := .agg #[.slice a m.eras.length c, .int .i64 m.trim]) (by simp [results, Tryz.results46, go_sem, q0, q1]) rfl ?_
      first | exact ⟨⟨_, m, rfl, ⟨_, rfl, (dUnhide OO).mono (by omega)⟩, dUnhide FF⟩, dUnhide CC, dUnhide DD⟩ | exact ⟨⟨_, rfl, m, ⟨_, rfl, (dUnhide OO).mono (by omega)⟩, dUnhide FF⟩, dUnhide CC, dUnhide DD⟩ | exact ⟨⟨m, ⟨_, rfl, (dUnhide OO).mono (by omega)⟩, dUnhide FF⟩, dUnhide CC, dUnhide DD⟩
    · have hkl : 0 < m.eras.length := by omega
      have h0 := OwK.put DB3.own hkl
      obtain ⟨b, off, rfl, hb1, hb2, -⟩ := h0
      have DBd := DB3.below (Below.refl _ _).drew
      have hcd := hc3.below (Below.refl _ _).drew
      have hrb : b < rb := by omega
      have p := (DB3.box.2 0 _ rfl).1
      have pd := (DBd.box.2 0 _ rfl).1
      have pa := ((DBd.below (ba w3.drew (.cells #[.int .i64 (-1), .int .i64 1, .int .i64 60, .int .i64 61] 3))).box.2 0 _ rfl).1
      go_wp2_with fail
      go_region_held3 (fun W => W.cell? ⟨rb, 0, none⟩ = some (.slice (some ⟨b, off, none⟩) m.eras.length c)) (first | with_reducible exact q | with_reducible exact pa | with_reducible exact pd | with_reducible exact p | exact qs | go_keep)
        (first
          | (go_at_call 64; refine (pick_new hcd [-1, 1, 60, 61] _ (by simp) (by simp) _).mono ?_; rintro r w5 ⟨⟨y, hy, rfl⟩, hc5, hd5⟩; have DB5 := DBd.drawn hd5 (by omega) (by omega); have q := (DB5.box.2 0 _ rfl).1; obtain ⟨b', off', e', -, -, ⟨c0, c1, c2, j0, j1, j2⟩, hfz, -, W2⟩ := OwK.put DB5.own hkl; cases e'; have fz2 := hfz 2 (by decide); have j2' : w5.cell? ⟨b, off + 2, none⟩ = some c2 := (by simpa using j2); have fz2' : w5.frozen? ⟨b, off + 2, none⟩ = false := (by simpa using fz2); have qs := ((DB5.box.far (b' := b) (o := off + 2) (by omega) (.int .i64 y)).2 0 _ rfl).1))
      all_goals
        have hy0 : -1 ≤ y ∧ y ≤ 61 := by
          simp only [List.mem_cons, List.mem_nil_iff, or_false] at hy
          omega
        have hres := (res3.drawn (Drawn.of_below (Below.refl _ _).drew |>.trans hd5) (by omega)).far (b' := b) (o := off + 2) (by omega) (.int .i64 y)
        have hbox := DB5.box.far (b' := b) (o := off + 2) (by omega) (.int .i64 y)
        have hrd := RdO.of (W2 y)
        simp only [Nat.zero_mul, Nat.add_zero] at hrd
        have hcur := hc5.setNew4 (b := b) (by omega) (off + 2) (.int .i64 y)
        have hdr := (D3.trans (Drawn.of_below (Below.refl _ _).drew |>.trans hd5)).setNew (b := b) (by omega) (off + 2) (.int .i64 y)
        have hfit : fitD 40 ⟨m.eras.set 0 ⟨m.eras[0].nodes, m.eras[0].closed, y⟩, m.trim⟩ := fit1.setE (by omega) (by have := fit1.2.1 _ (List.getElem_mem hkl); exact ⟨this.1, this.2.1, by show -9223372036854775808 ≤ y; omega, by show y ≤ 9223372036854775807; omega⟩)
        clear W2 hfz DB5 DBd DB3 res3 hc3 D3 hcd hc5 hd5 hy
        obtain ⟨z0, f0⟩ := hres.2 0 _ rfl
        obtain ⟨z1, f1⟩ := hres.2 1 _ rfl
        have k0 := (hbox.2 0 _ rfl).1
        have k1 := (hbox.2 1 _ rfl).1
        have ZZ := dHide ((hres.put 0 (.slice (some ⟨b, off, none⟩) m.eras.length c)).put 1 (.int .i64 m.trim))
        have OO := dHide ((hrd.far (b := w.heap.size + 1) (o := 0) (by omega) (.slice (some ⟨b, off, none⟩) m.eras.length c)).far (b := w.heap.size + 1) (o := 1) (by omega) (.int .i64 m.trim))
        have CC := dHide ((hcur.setNew4 (b := w.heap.size + 1) (by omega) 0 (.slice (some ⟨b, off, none⟩) m.eras.length c)).setNew4 (b := w.heap.size + 1) (by omega) 1 (.int .i64 m.trim))
        have DD := dHide ((hdr.setNew (b := w.heap.size + 1) (by omega) 0 (.slice (some ⟨b, off, none⟩) m.eras.length c)).setNew (b := w.heap.size + 1) (by omega) 1 (.int .i64 m.trim))
        have FF := dHide hfit
        clear hres hbox hrd hcur hdr hfit
        go_wp2_with fail
        generalize ((w5.setCell ⟨b, off + 2, none⟩ (.int .i64 y)).setCell ⟨w.heap.size + 1, 0, none⟩ (.slice (some ⟨b, off, none⟩) m.eras.length c)).setCell ⟨w.heap.size + 1, 1, none⟩ (.int .i64 m.trim) = V at *
        have q0 := ((dUnhide ZZ).2 0 _ rfl).1
        have q1 := ((dUnhide ZZ).2 1 _ rfl).1
        refine bodyPost_ret (v := .agg #[.slice (some ⟨b, off, none⟩) m.eras.length c, .int .i64 m.trim]) (by simp [results, Tryz.results46, go_sem, q0, q1]) rfl ?_
        first | exact ⟨⟨_, (Rg.mk (m.eras.set 0 (Er.mk m.eras[0].nodes m.eras[0].closed y)) m.trim), rfl, ⟨_, rfl, (dUnhide OO).mono (by omega)⟩, dUnhide FF⟩, dUnhide CC, dUnhide DD⟩ | exact ⟨⟨_, rfl, (Rg.mk (m.eras.set 0 (Er.mk m.eras[0].nodes m.eras[0].closed y)) m.trim), ⟨_, rfl, (dUnhide OO).mono (by omega)⟩, dUnhide FF⟩, dUnhide CC, dUnhide DD⟩ | exact ⟨⟨(Rg.mk (m.eras.set 0 (Er.mk m.eras[0].nodes m.eras[0].closed y)) m.trim), ⟨_, rfl, (dUnhide OO).mono (by omega)⟩, dUnhide FF⟩, dUnhide CC, dUnhide DD⟩
  by_cases hx3 : x = 3
  · subst hx3
    by_cases hn : (0 : Int) < (m.eras.length : Int)
    case neg =>
      have hres := res3
      have hbox := DB3.box
      have hrd := RdO.of DB3.own
      have hcur := hc3
      have hdr := D3
      have hfit := fit1.more (show 7 ≤ 40 by omega)
      obtain ⟨z0, f0⟩ := hres.2 0 _ rfl
      obtain ⟨z1, f1⟩ := hres.2 1 _ rfl
      have k0 := (hbox.2 0 _ rfl).1
      have k1 := (hbox.2 1 _ rfl).1
      have ZZ := dHide ((hres.put 0 (.slice a m.eras.length c)).put 1 (.int .i64 m.trim))
      have OO := dHide ((hrd.far (b := w.heap.size + 1) (o := 0) (by omega) (.slice a m.eras.length c)).far (b := w.heap.size + 1) (o := 1) (by omega) (.int .i64 m.trim))
      have CC := dHide ((hcur.setNew4 (b := w.heap.size + 1) (by omega) 0 (.slice a m.eras.length c)).setNew4 (b := w.heap.size + 1) (by omega) 1 (.int .i64 m.trim))
      have DD := dHide ((hdr.setNew (b := w.heap.size + 1) (by omega) 0 (.slice a m.eras.length c)).setNew (b := w.heap.size + 1) (by omega) 1 (.int .i64 m.trim))
      have FF := dHide hfit
      clear hres hbox hrd hcur hdr hfit
      go_wp2_with fail
      generalize (w3.setCell ⟨w.heap.size + 1, 0, none⟩ (.slice a m.eras.length c)).setCell ⟨w.heap.size + 1, 1, none⟩ (.int .i64 m.trim) = V at *
      have q0 := ((dUnhide ZZ).2 0 _ rfl).1
      have q1 := ((dUnhide ZZ).2 1 _ rfl).1
      refine bodyPost_ret (v := .agg #[.slice a m.eras.length c, .int .i64 m.trim]) (by simp [results, Tryz.results46, go_sem, q0, q1]) rfl ?_
      first | exact ⟨⟨_, m, rfl, ⟨_, rfl, (dUnhide OO).mono (by omega)⟩, dUnhide FF⟩, dUnhide CC, dUnhide DD⟩ | exact ⟨⟨_, rfl, m, ⟨_, rfl, (dUnhide OO).mono (by omega)⟩, dUnhide FF⟩, dUnhide CC, dUnhide DD⟩ | exact ⟨⟨m, ⟨_, rfl, (dUnhide OO).mono (by omega)⟩, dUnhide FF⟩, dUnhide CC, dUnhide DD⟩
    · have hkl : 0 < m.eras.length := by omega
      have h0 := OwK.putN DB3.own hkl
      obtain ⟨b, off, rfl, hb1, hb2, -⟩ := h0
      have DBd := DB3.below (Below.refl _ _).drew
      have hcd := hc3.below (Below.refl _ _).drew
      have nsd := ns3.below (Below.refl _ _).drew
      have cfgd := cfg3.below (Below.refl _ _).drew
      have hrb : b < rb := by omega
      have hrl : rb < w3.heap.size := DB3.lt
      have p := And.intro (cfg3 0 _ rfl) (And.intro (cfg3 1 _ rfl) (DB3.box.2 0 _ rfl).1)
      have pd := And.intro (cfgd 0 _ rfl) (And.intro (cfgd 1 _ rfl) (DBd.box.2 0 _ rfl).1)
      go_wp2_with fail
      go_region_held3 (fun W => W.cell? ⟨w.heap.size, 0, none⟩ = some (.slice ca ds.length cc) ∧ W.cell? ⟨w.heap.size, 1, none⟩ = some (.int .i64 cop) ∧ W.cell? ⟨rb, 0, none⟩ = some (.slice (some ⟨b, off, none⟩) m.eras.length c)) (first | with_reducible exact q | with_reducible exact pd | with_reducible exact p | exact qs | go_keep)
        (first
          | (go_at_call 82; refine (l4DrawNodes_any bk _ ds cop _ hcd nsd hl).mono ?_; rintro r w5 ⟨⟨u5, zs5, rfl, O5, hz5, A5⟩, hc5, hd5⟩; have N5 := ownN_of_row O5; obtain ⟨-, ua5, uc5, rfl, -, -⟩ := N5.bs; have DB5 := DBd.drawn hd5 (by omega) (by omega); have cfg5 := cfgd.drawn hd5 (by omega); have q := And.intro (cfg5 0 _ rfl) (And.intro (cfg5 1 _ rfl) (DB5.box.2 0 _ rfl).1); obtain ⟨b', off', e', -, -, ⟨c0, j0⟩, fz0, W2⟩ := OwK.putN DB5.own hkl; cases e'; have j0' : w5.cell? ⟨b, off, none⟩ = some c0 := (by simpa using j0); have fz0' : w5.frozen? ⟨b, off, none⟩ = false := (by simpa using fz0); have qs := And.intro ((cfg5.farB (b' := b) (o := off) (by omega) (.slice ua5 zs5.length uc5)) 0 _ rfl) (And.intro ((cfg5.farB (b' := b) (o := off) (by omega) (.slice ua5 zs5.length uc5)) 1 _ rfl) ((DB5.box.far (b' := b) (o := off) (by omega) (.slice ua5 zs5.length uc5)).2 0 _ rfl).1)))
      all_goals
        have hres := (res3.drawn (Drawn.of_below (Below.refl _ _).drew |>.trans hd5) (by omega)).far (b' := b) (o := off) (by omega) (.slice ua5 zs5.length uc5)
        have hbox := DB5.box.far (b' := b) (o := off) (by omega) (.slice ua5 zs5.length uc5)
        have hsd : w3.drew.heap.size = w3.heap.size := rfl
        have hrd := W2 ua5 uc5 zs5 (N5.mono (by omega)) (by rcases N5.blk with h | h; exact .inl h; exact .inr (by omega))
        simp only [Nat.zero_mul, Nat.add_zero] at hrd
        have hcur := hc5.setNew4 (b := b) (by omega) off (.slice ua5 zs5.length uc5)
        have hdr := (D3.trans (Drawn.of_below (Below.refl _ _).drew |>.trans hd5)).setNew (b := b) (by omega) off (.slice ua5 zs5.length uc5)
        have hfit : fitD 40 ⟨m.eras.set 0 ⟨zs5, m.eras[0].closed, m.eras[0].last⟩, m.trim⟩ := fit1.setE (by omega) (by have := fit1.2.1 _ (List.getElem_mem hkl); exact ⟨by show zs5.length ≤ 40; omega, A5, this.2.2⟩)
        clear W2 DB5 DBd DB3 res3 hc3 D3 hcd hc5 hd5 nsd cfgd cfg5 N5 O5 A5 qs q p pd j0 fz0
        obtain ⟨z0, f0⟩ := hres.2 0 _ rfl
        obtain ⟨z1, f1⟩ := hres.2 1 _ rfl
        have k0 := (hbox.2 0 _ rfl).1
        have k1 := (hbox.2 1 _ rfl).1
        have ZZ := dHide ((hres.put 0 (.slice (some ⟨b, off, none⟩) m.eras.length c)).put 1 (.int .i64 m.trim))
        have OO := dHide ((hrd.far (b := w.heap.size + 1) (o := 0) (by omega) (.slice (some ⟨b, off, none⟩) m.eras.length c)).far (b := w.heap.size + 1) (o := 1) (by omega) (.int .i64 m.trim))
        have CC := dHide ((hcur.setNew4 (b := w.heap.size + 1) (by omega) 0 (.slice (some ⟨b, off, none⟩) m.eras.length c)).setNew4 (b := w.heap.size + 1) (by omega) 1 (.int .i64 m.trim))
        have DD := dHide ((hdr.setNew (b := w.heap.size + 1) (by omega) 0 (.slice (some ⟨b, off, none⟩) m.eras.length c)).setNew (b := w.heap.size + 1) (by omega) 1 (.int .i64 m.trim))
        have FF := dHide hfit
        clear hres hbox hrd hcur hdr hfit
        go_wp2_with fail
        generalize ((w5.setCell ⟨b, off, none⟩ (.slice ua5 zs5.length uc5)).setCell ⟨w.heap.size + 1, 0, none⟩ (.slice (some ⟨b, off, none⟩) m.eras.length c)).setCell ⟨w.heap.size + 1, 1, none⟩ (.int .i64 m.trim) = V at *
        have q0 := ((dUnhide ZZ).2 0 _ rfl).1
        have q1 := ((dUnhide ZZ).2 1 _ rfl).1
        refine bodyPost_ret (v := .agg #[.slice (some ⟨b, off, none⟩) m.eras.length c, .int .i64 m.trim]) (by simp [results, Tryz.results46, go_sem, q0, q1]) rfl ?_
        first | exact ⟨⟨_, (Rg.mk (m.eras.set 0 (Er.mk zs5 m.eras[0].closed m.eras[0].last)) m.trim), rfl, ⟨_, rfl, (dUnhide OO).mono (by omega)⟩, dUnhide FF⟩, dUnhide CC, dUnhide DD⟩ | exact ⟨⟨_, rfl, (Rg.mk (m.eras.set 0 (Er.mk zs5 m.eras[0].closed m.eras[0].last)) m.trim), ⟨_, rfl, (dUnhide OO).mono (by omega)⟩, dUnhide FF⟩, dUnhide CC, dUnhide DD⟩ | exact ⟨⟨(Rg.mk (m.eras.set 0 (Er.mk zs5 m.eras[0].closed m.eras[0].last)) m.trim), ⟨_, rfl, (dUnhide OO).mono (by omega)⟩, dUnhide FF⟩, dUnhide CC, dUnhide DD⟩
  by_cases hx4 : x = 4
  · subst hx4
    have xx0 := cfg3 0 _ rfl
    have xx1 := cfg3 1 _ rfl
    go_wp2_with fail
    refine (l7DrawSet_any bk _ ds cop w3 hc3 ns3 hl hne).mono ?_
    rintro r w4 ⟨⟨u4, zs, rfl, O4, hz4, A4⟩, hc4, hd4⟩
    obtain ⟨-, ua, uc, rfl, -, -⟩ := O4.bs
    have DB4 := DB3.drawn hd4 (by omega) (by omega)
    have hrl : rb < w3.heap.size := DB3.lt
    have hs4 := hd4.size
    have E4 : DE7 w bk rb w0.heap.size w4 ⟨ua, uc, zs, false, 0⟩ m.eras m.trim a c := by
      have hF := DB4.full
      have hO := DB4.own
      obtain ⟨rs, h1, h2, h3, h4, h5⟩ := hO
      have hl' : m.eras.length = rs.length := by rw [← h1, List.length_map]
      have P : ApR 57 3 erCl w4 w0.heap.size (.slice a m.eras.length c) rs := by
        rw [hl'] at h2 hF ⊢
        exact ApR.of_full h2 hF
      have N4 : OwnN w4 w3.heap.size (.slice ua zs.length uc) zs := O4
      refine ⟨hc4, D3.trans hd4, res3.drawn hd4 (by omega), DB4.box, ⟨rs, h1, P, fun q hq => ⟨(h4 q hq).1, ?_⟩⟩, ⟨N4.mono (by omega), ?_⟩, fun e => ?_⟩
      · rcases (h4 q hq).2 with h | h
        · exact .inl h
        · obtain ⟨i, hi, rfl⟩ := List.mem_iff_getElem.1 hq
          rcases h5.2 i hi with h' | h'
          · exact .inl h'
          · exact .inr ⟨fun e => h' (touch_block e).symm, by omega⟩
      · rcases N4.blk with h | h
        · exact .inl h
        · refine .inr ⟨fun e => ?_, ?_⟩
          · have h1 := dUnhide TB _ e
            have h2 : w3.heap.size ≤ blockOf (Sv Er.nodes ⟨ua, uc, zs, false, 0⟩) := h
            omega
          · have h2 : w3.heap.size ≤ blockOf (Sv Er.nodes ⟨ua, uc, zs, false, 0⟩) := h
            omega
      · have := dUnhide TB _ e
        omega
    clear DB4 DB3 res3 D3 hc3 hc4 hd4 O4 xx0 xx1
    go_wp2
    go_loopw [] (fun wq => ∃ (ms : List Er) (a' : Option Addr) (c' : Nat), DE7 w bk rb w0.heap.size wq ⟨ua, uc, zs, false, 0⟩ ms m.trim a' c' ∧ ms.length ≤ 31 ∧ (∀ e ∈ ms, fitD1 e)) (fun wq => 40 - eraLen wq rb)
    case atStart => exact ⟨m.eras, a, c, E4, by omega, fit1.2.1⟩
    case round =>
      obtain ⟨ms, a', c', E, hml, hfe⟩ := hrel
      clear E4
      have HM := dHide (eraLen_of (E.box.2 0 _ rfl).1)
      have CB := dHide fun W (h : DE7 w bk rb w0.heap.size W ⟨ua, uc, zs, false, 0⟩ ms m.trim a' c') => l1Below_any bk 2 (by omega) (by omega) W h.cur
      have Ed := E.below (Below.refl _ _).drew
      obtain ⟨k1, -⟩ := E.box.2 0 _ rfl
      have hwr : rb < wr.heap.size := dCell_lt k1
      go_wp2_with fail
      go_region_law (rw [if_pos (by rfl)]; go_simp; go_at_call 57; refine (dUnhide CB _ Ed).mono ?_; rintro r w5 ⟨⟨y, hy, rfl⟩, hc5, hd5⟩; have E5 := Ed.move hk (by omega) (by omega) hc5 hd5; have h5 : rb < w5.heap.size := Nat.lt_of_lt_of_le hwr hd5.size; obtain ⟨k5, -⟩ := E5.box.2 0 _ rfl; have hwy : IntKind.i64.wrap (30 + (y : Int)) = 30 + (y : Int) := (by rw [IntKind.wrap_i64]; omega); go_simp; clear hc5 hd5)
      all_goals
        clear Ed CB k1 E
        by_cases hcc : (ms.length : Int) < 30 + (y : Int)
        · have hd : decide ((ms.length : Int) < 30 + (y : Int)) = true := decide_eq_true hcc
          have bE := ba w5 (.cells #[.slice ua zs.length uc, .bool false, .int .i64 0] 57)
          have E6 := E5.below bE
          have hR := rwR_one w5 ⟨ua, uc, zs, false, 0⟩ 57 1 (by omega)
          obtain ⟨a7, c7, w7, hrun, N7, E7⟩ := E6.push hk (by omega) (by omega) (by have := bE.size; omega) 27 _ hR (by omega)
          have HE7 := dHide E7
          have HM7 := dHide (eraLen_of (E7.box.2 0 _ rfl).1)
          obtain ⟨k5a, -⟩ := E6.box.2 0 _ rfl
          obtain ⟨n0, f0⟩ := N7.2 0 _ rfl
          clear E5 E6 hR N7 E7 bE
          go_wp2_with (at_builtin; refine wp_appRunR rfl _ _ 27 27 rfl _ _ rfl rfl hrun ?_)
          go_roundw
          case rel => exact ⟨ms ++ [⟨zs, false, 0⟩], a7, c7, dUnhide HE7, by simp only [List.length_append, List.length_singleton]; omega, fun e he => by
            rcases List.mem_append.1 he with he | he
            · exact hfe e he
            · obtain rfl : e = ⟨zs, false, 0⟩ := by simpa using he
              exact ⟨hz4, A4, by simp only; omega, by simp only; omega⟩⟩
          case measure =>
            have h1 := dUnhide HM7
            have h2 := dUnhide HM
            simp only [List.length_append, List.length_singleton] at h1
            omega
        · have hd : decide ((ms.length : Int) < 30 + (y : Int)) = false := decide_eq_false hcc
          have hres := E5.res
          have hbox := E5.box
          have hrd := E5.rd
          have hcur := E5.cur
          have hdr := E5.drawn
          have hfit : fitD 40 ⟨ms, m.trim⟩ := ⟨by show ms.length ≤ 40; omega, hfe, fit1.2.2⟩
          clear E5 k5 HM
          obtain ⟨z0, f0⟩ := hres.2 0 _ rfl
          obtain ⟨z1, f1⟩ := hres.2 1 _ rfl
          have k0 := (hbox.2 0 _ rfl).1
          have k1 := (hbox.2 1 _ rfl).1
          have ZZ := dHide ((hres.put 0 (.slice a' ms.length c')).put 1 (.int .i64 m.trim))
          have OO := dHide ((hrd.far (b := w.heap.size + 1) (o := 0) (by omega) (.slice a' ms.length c')).far (b := w.heap.size + 1) (o := 1) (by omega) (.int .i64 m.trim))
          have CC := dHide ((hcur.setNew4 (b := w.heap.size + 1) (by omega) 0 (.slice a' ms.length c')).setNew4 (b := w.heap.size + 1) (by omega) 1 (.int .i64 m.trim))
          have DD := dHide ((hdr.setNew (b := w.heap.size + 1) (by omega) 0 (.slice a' ms.length c')).setNew (b := w.heap.size + 1) (by omega) 1 (.int .i64 m.trim))
          have FF := dHide hfit
          clear hres hbox hrd hcur hdr hfit
          go_wp2_with fail
          generalize (w5.setCell ⟨w.heap.size + 1, 0, none⟩ (.slice a' ms.length c')).setCell ⟨w.heap.size + 1, 1, none⟩ (.int .i64 m.trim) = V at *
          have q0 := ((dUnhide ZZ).2 0 _ rfl).1
          have q1 := ((dUnhide ZZ).2 1 _ rfl).1
          refine bodyPost_ret (v := .agg #[.slice a' ms.length c', .int .i64 m.trim]) (by simp [results, Tryz.results46, go_sem, q0, q1]) rfl ?_
          first | exact ⟨⟨_, (Rg.mk ms m.trim), rfl, ⟨_, rfl, (dUnhide OO).mono (by omega)⟩, dUnhide FF⟩, dUnhide CC, dUnhide DD⟩ | exact ⟨⟨_, rfl, (Rg.mk ms m.trim), ⟨_, rfl, (dUnhide OO).mono (by omega)⟩, dUnhide FF⟩, dUnhide CC, dUnhide DD⟩ | exact ⟨⟨(Rg.mk ms m.trim), ⟨_, rfl, (dUnhide OO).mono (by omega)⟩, dUnhide FF⟩, dUnhide CC, dUnhide DD⟩
  have hb0 : ((x : Int) == 0) = false := by simp; omega
  have hb1 : ((x : Int) == 1) = false := by simp; omega
  have hb2 : ((x : Int) == 2) = false := by simp; omega
  have hb3 : ((x : Int) == 3) = false := by simp; omega
  have hb4 : ((x : Int) == 4) = false := by simp; omega
  have hres := res3
  have hbox := DB3.box
  have hrd := RdO.of DB3.own
  have hcur := hc3
  have hdr := D3
  have hfit := fit1.more (show 7 ≤ 40 by omega)
  clear DB3 res3 D3 hc3
  obtain ⟨z0, f0⟩ := hres.2 0 _ rfl
  obtain ⟨z1, f1⟩ := hres.2 1 _ rfl
  have k0 := (hbox.2 0 _ rfl).1
  have k1 := (hbox.2 1 _ rfl).1
  have ZZ := dHide ((hres.put 0 (.slice a m.eras.length c)).put 1 (.int .i64 m.trim))
  have OO := dHide ((hrd.far (b := w.heap.size + 1) (o := 0) (by omega) (.slice a m.eras.length c)).far (b := w.heap.size + 1) (o := 1) (by omega) (.int .i64 m.trim))
  have CC := dHide ((hcur.setNew4 (b := w.heap.size + 1) (by omega) 0 (.slice a m.eras.length c)).setNew4 (b := w.heap.size + 1) (by omega) 1 (.int .i64 m.trim))
  have DD := dHide ((hdr.setNew (b := w.heap.size + 1) (by omega) 0 (.slice a m.eras.length c)).setNew (b := w.heap.size + 1) (by omega) 1 (.int .i64 m.trim))
  have FF := dHide hfit
  clear hres hbox hrd hcur hdr hfit
  go_wp2_with fail
  generalize (w3.setCell ⟨w.heap.size + 1, 0, none⟩ (.slice a m.eras.length c)).setCell ⟨w.heap.size + 1, 1, none⟩ (.int .i64 m.trim) = V at *
  have q0 := ((dUnhide ZZ).2 0 _ rfl).1
  have q1 := ((dUnhide ZZ).2 1 _ rfl).1
  refine bodyPost_ret (v := .agg #[.slice a m.eras.length c, .int .i64 m.trim]) (by simp [results, Tryz.results46, go_sem, q0, q1]) rfl ?_
  first | exact ⟨⟨_, m, rfl, ⟨_, rfl, (dUnhide OO).mono (by omega)⟩, dUnhide FF⟩, dUnhide CC, dUnhide DD⟩ | exact ⟨⟨_, rfl, m, ⟨_, rfl, (dUnhide OO).mono (by omega)⟩, dUnhide FF⟩, dUnhide CC, dUnhide DD⟩ | exact ⟨⟨m, ⟨_, rfl, (dUnhide OO).mono (by omega)⟩, dUnhide FF⟩, dUnhide CC, dUnhide DD⟩
end Go.Proofs.YthndkkjgjhgdnaaGreatDoor
