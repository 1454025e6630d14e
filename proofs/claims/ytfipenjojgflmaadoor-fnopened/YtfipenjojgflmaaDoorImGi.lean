/- impl's RegClose, RegTrim (printed by tools/mkimgi.py). -/
import Derived.Test.YtfipenjojgflmaaDoorImGh
namespace Go.Proofs.YtfipenjojgflmaaDoor
open Go.ChangeShapes Go.WideShapes Go.ChangeAt Go.RowKit
set_option linter.unusedVariables false
set_option linter.unusedSimpArgs false
set_option maxRecDepth 100000

theorem closeFn (W : World) (lo b pb qb : Nat) (u : Value) (m : Rg) (x y : Int) (a0 a1 : Addr) (hp : W.cell? ⟨pb, 0, none⟩ = some (.int .i64 x)) (hq : W.cell? ⟨qb, 0, none⟩ = some (.int .i64 y)) (h : CpyAt W lo b u m) (hSh : Shp W b) (hS : Snt W a0 a1) (hlo : lo ≤ W.heap.size) (okx : okInt x) (oky : okInt y) (hs : m.eras.length ≤ 1048576) (hO : firstO m.eras = 0 → m.eras.length = 0) :
    Calls Tryd.prog 44 #[.pointer (some ⟨b, 0, none⟩), .pointer (some ⟨pb, 0, none⟩), .pointer (some ⟨qb, 0, none⟩)] W fun e w' => ChgEnd a1 lo b (closeO m x y) e w' ∧ Below lo W w' := by
  have C := dHide (closeFirst_any W lo b u m x y a0 a1 h hSh hS hlo okx oky hs hO)
  have NP : Hid (∀ e w', ChgEnd a1 lo b (closeO m x y) e w' → ∃ v, e = .returned v) := fun e w' h => by
    unfold ChgEnd at h
    split at h
    · exact ⟨_, h⟩
    · exact ⟨_, h.1⟩
  clear h hSh hS
  go_enter Tryd.func44, Tryd.ntmps44
  go_wp2_with fail
  refine (dUnhide C).mono ?_
  rintro e w1 ⟨hE, b1⟩
  obtain ⟨v, rfl⟩ := dUnhide NP _ _ hE
  have HE := dHide hE
  clear C hE
  go_wp2
  go_ret
  exact ⟨dUnhide HE, b1⟩
theorem ord_first {ds : List Int} {cop : Int} {m : Rg} (h : regP ds cop m) : firstO m.eras = 0 → m.eras.length = 0 := fun h0 => (ord_zero h0).1 (((regP_iff ds cop m).1 h).2.2.1)
/-- turned, whatever the change is. -/
theorem turned_any (w : World) (F : Nat) (caps : Array Value) (cv v : Value) (c : List Int × Int) (m : Rg) (a0 a1 : Addr) (res : Option Rg) (hF : ∀ args w, (callFunc F args).run Tryd.prog w = .ok (.enter F args) w) (hG : regP c.1 c.2 m → ∀ W, Below w.heap.size w W → Chg W F caps m a1 res) (hc : RdConfig cv c w) (hv : RdRegister v m w) (okc : okConfig c) (ok : okRegister m) (hsc : sizConfig c ≤ 1048576) (hs : sizRegister m ≤ 1048576) (hS : Snt w a0 a1)
    (R : Rg) (s : Bool) (hR : (¬ regP c.1 c.2 m → R = zeroRg ∧ s = false) ∧ (regP c.1 c.2 m → (res = none → R = m ∧ s = false) ∧ ∀ m', res = some m' → R = m' ∧ s = true)) :
    Calls Tryd.prog 24 #[cv, v, .func (.func F) #[] caps] w fun e w' => (∃ u, e = .returned (.tuple #[u, .bool s]) ∧ OwRegister w.heap.size w'.heap.size u R w') ∧ Below w.heap.size w w' := by
  by_cases hP : regP c.1 c.2 m
  · cases res with
    | none =>
      obtain ⟨rfl, rfl⟩ := (hR.2 hP).1 rfl
      exact turned_no w F caps cv v c R a0 a1 hF hP (hG hP) hc hv okc ok hsc hs hS
    | some m' =>
      obtain ⟨rfl, rfl⟩ := (hR.2 hP).2 m' rfl
      exact turned_yes w F caps cv v c m a0 a1 hF hP R (hG hP) hc hv okc ok hsc hs hS
  · obtain ⟨rfl, rfl⟩ := hR.1 hP
    exact turned_bad w F caps cv v c m a0 a1 hP hc hv okc ok hsc hs hS
set_option maxHeartbeats 8000000 in
theorem implRegClose_any (cv v : Value) (c : List Int × Int) (m : Rg) (x y : Int) (okx : okInt x) (oky : okInt y) (w : World) (a0 a1 : Addr) (hS : Snt w a0 a1) (hc : RdConfig cv c w) (hv : RdRegister v m w) (okc : okConfig c) (ok : okRegister m) (hsc : sizConfig c ≤ 1048576) (hs : sizRegister m ≤ 1048576) :
    Calls Tryd.prog 15 #[cv, v, .int .i64 x, .int .i64 y] w fun e w' => (∃ u, e = .returned (.tuple #[u, .bool (closeM c.1 c.2 m x y).2]) ∧ OwRegister w.heap.size w'.heap.size u (closeM c.1 c.2 m x y).1 w') ∧ Below w.heap.size w w' := by
  obtain ⟨ds, cop⟩ := c
  have hle : m.eras.length ≤ 1048576 := by unfold sizRegister sizEraS at hs; omega
  have hRS : (¬ regP ds cop m → (closeM ds cop m x y).1 = zeroRg ∧ (closeM ds cop m x y).2 = false) ∧ (regP ds cop m → (closeO m x y = none → (closeM ds cop m x y).1 = m ∧ (closeM ds cop m x y).2 = false) ∧ ∀ m', closeO m x y = some m' → (closeM ds cop m x y).1 = m' ∧ (closeM ds cop m x y).2 = true) := by
    refine ⟨fun h => by rw [closeM_bad h]; exact ⟨rfl, rfl⟩, fun h => ⟨fun h0 => ?_, fun m' h0 => ?_⟩⟩
    · unfold closeO at h0
      split at h0
      · cases h0
      · rename_i hn; rw [closeM_no h hn]; exact ⟨rfl, rfl⟩
    · unfold closeO at h0
      split at h0
      · rename_i hn; cases h0; rw [closeM_yes h hn]; exact ⟨rfl, rfl⟩
      · cases h0
  have CT := dHide fun W (hS : Snt W a0 a1) (hc : RdConfig cv (ds, cop) W) (hv : RdRegister v m W) caps hG => turned_any W 44 caps cv v (ds, cop) m a0 a1 (closeO m x y) Tryd.call44 hG hc hv okc ok hsc hs hS _ _ hRS
  simp only at *
  generalize (closeM ds cop m x y).1 = R at *
  generalize (closeM ds cop m x y).2 = s at *
  have ba : ∀ (w : World) o, Below w.heap.size w (w.alloc o) := fun w o => (Below.refl _ _).alloc (Nat.le_refl _) o
  have FM := formRegister hv
  have FC := hc
  obtain ⟨a, cap, e0, -⟩ := FM
  obtain ⟨sc, e1, ⟨-, ca, cc, e2, -, -⟩⟩ := FC
  subst e0
  subst e2
  subst e1
  simp only at *
  have B0 := (belowThen (belowThen (belowThen (belowThen (ba w (.cells #[.slice ca ds.length cc, .int .i64 cop] 26)) (ba _ (.cells #[.slice a m.eras.length cap, .int .i64 m.trim] 29))) (ba _ (.cells #[.int .i64 x] 3))) (ba _ (.cells #[.int .i64 y] 3))) (ba _ (.cells #[.slice none 0 0, .int .i64 0] 29)))
  have CT := dHide (dUnhide CT _ (hS.below B0 (Nat.le_refl _)) (hc.below B0) (hv.below B0))
  have HS := dHide (hS.below B0 (Nat.le_refl _))
  have P0 := (Bx.new ((w.alloc (.cells #[.slice ca ds.length cc, .int .i64 cop] 26)).alloc (.cells #[.slice a m.eras.length cap, .int .i64 m.trim] 29)) [.int .i64 x] 3).below (belowThen (ba _ (.cells #[.int .i64 y] 3)) (ba _ (.cells #[.slice none 0 0, .int .i64 0] 29)))
  have P1 := (Bx.new (((w.alloc (.cells #[.slice ca ds.length cc, .int .i64 cop] 26)).alloc (.cells #[.slice a m.eras.length cap, .int .i64 m.trim] 29)).alloc (.cells #[.int .i64 x] 3)) [.int .i64 y] 3).below (ba _ (.cells #[.slice none 0 0, .int .i64 0] 29))
  have Z0 := BxZ.new (B := w.heap.size) ((((w.alloc (.cells #[.slice ca ds.length cc, .int .i64 cop] 26)).alloc (.cells #[.slice a m.eras.length cap, .int .i64 m.trim] 29)).alloc (.cells #[.int .i64 x] 3)).alloc (.cells #[.int .i64 y] 3)) [.slice none 0 0, .int .i64 0] 29 (by simp <;> omega)
  have X0 := (Bx.new w [.slice ca ds.length cc, .int .i64 cop] 26).below (belowThen (belowThen (belowThen (ba _ (.cells #[.slice a m.eras.length cap, .int .i64 m.trim] 29)) (ba _ (.cells #[.int .i64 x] 3))) (ba _ (.cells #[.int .i64 y] 3))) (ba _ (.cells #[.slice none 0 0, .int .i64 0] 29)))
  have Y0 := (Bx.new (w.alloc (.cells #[.slice ca ds.length cc, .int .i64 cop] 26)) [.slice a m.eras.length cap, .int .i64 m.trim] 29).below (belowThen (belowThen (ba _ (.cells #[.int .i64 x] 3)) (ba _ (.cells #[.int .i64 y] 3))) (ba _ (.cells #[.slice none 0 0, .int .i64 0] 29)))
  have e1 : (w.alloc (.cells #[.slice ca ds.length cc, .int .i64 cop] 26)).heap.size = w.heap.size + 1 := by simp
  have e2 : ((w.alloc (.cells #[.slice ca ds.length cc, .int .i64 cop] 26)).alloc (.cells #[.slice a m.eras.length cap, .int .i64 m.trim] 29)).heap.size = w.heap.size + 1 + 1 := by simp
  have e3 : (((w.alloc (.cells #[.slice ca ds.length cc, .int .i64 cop] 26)).alloc (.cells #[.slice a m.eras.length cap, .int .i64 m.trim] 29)).alloc (.cells #[.int .i64 x] 3)).heap.size = w.heap.size + 1 + 1 + 1 := by simp
  have e4 : ((((w.alloc (.cells #[.slice ca ds.length cc, .int .i64 cop] 26)).alloc (.cells #[.slice a m.eras.length cap, .int .i64 m.trim] 29)).alloc (.cells #[.int .i64 x] 3)).alloc (.cells #[.int .i64 y] 3)).heap.size = w.heap.size + 1 + 1 + 1 + 1 := by simp
  rw [e1] at Y0
  rw [e2] at P0
  rw [e3] at P1
  rw [e4] at Z0
  clear e1 e2 e3 e4 hS hc hv
  have HG : Hid (regP ds cop m → ∀ W, Below (((((w.alloc (.cells #[.slice ca ds.length cc, .int .i64 cop] 26)).alloc (.cells #[.slice a m.eras.length cap, .int .i64 m.trim] 29)).alloc (.cells #[.int .i64 x] 3)).alloc (.cells #[.int .i64 y] 3)).alloc (.cells #[.slice none 0 0, .int .i64 0] 29)).heap.size (((((w.alloc (.cells #[.slice ca ds.length cc, .int .i64 cop] 26)).alloc (.cells #[.slice a m.eras.length cap, .int .i64 m.trim] 29)).alloc (.cells #[.int .i64 x] 3)).alloc (.cells #[.int .i64 y] 3)).alloc (.cells #[.slice none 0 0, .int .i64 0] 29)) W → Chg W 44 #[.pointer (some ⟨w.heap.size + 1 + 1, 0, none⟩), .pointer (some ⟨w.heap.size + 1 + 1 + 1, 0, none⟩)] m a1 (closeO m x y)) := fun hP W hb W' lo b u hb' hlo hlo' hC hSh => by
    have hbb := belowThen hb hb'
    exact closeFn W' lo b _ _ u m x y a0 a1 (P0.below hbb 0 _ rfl) (P1.below hbb 0 _ rfl) hC hSh ((dUnhide HS).below hbb (Nat.le_refl _)) hlo' okx oky hle (ord_first hP)
  have CT := dHide (dUnhide CT _ (dUnhide HG))
  have x0 := X0 0 _ rfl
  have x1 := X0 1 _ rfl
  have y0 := Y0 0 _ rfl
  have y1 := Y0 1 _ rfl
  have HZ := dHide Z0
  clear HG HS X0 Y0 Z0 P0 P1
  go_enter Tryd.func15, Tryd.ntmps15
  go_wp2_with fail
  generalize (((((w.alloc (.cells #[.slice ca ds.length cc, .int .i64 cop] 26)).alloc (.cells #[.slice a m.eras.length cap, .int .i64 m.trim] 29)).alloc (.cells #[.int .i64 x] 3)).alloc (.cells #[.int .i64 y] 3)).alloc (.cells #[.slice none 0 0, .int .i64 0] 29)) = w0 at *
  refine (dUnhide CT).mono ?_
  rintro e w1 ⟨⟨u1, rfl, O1⟩, b1⟩
  obtain ⟨sv, rfl, O1⟩ := O1
  obtain ⟨ua, uc, rfl, -⟩ := formK (OwK.rd O1)
  have B1 := belowThen B0 b1
  have hw0 := (dUnhide HZ).lt
  have Z1 := dHide ((dUnhide HZ).below b1)
  obtain ⟨z0, f0⟩ := (dUnhide Z1).2 0 _ rfl
  obtain ⟨z1, f1⟩ := (dUnhide Z1).2 1 _ rfl
  have ZZ := dHide (((dUnhide Z1).put 0 (.slice ua R.eras.length uc)).put 1 (.int .i64 R.trim))
  have BB := dHide ((B1.setCell (p := ⟨w.heap.size + 1 + 1 + 1 + 1, 0, none⟩) (by simp only; omega) (.slice ua R.eras.length uc)).setCell (p := ⟨w.heap.size + 1 + 1 + 1 + 1, 1, none⟩) (by simp only; omega) (.int .i64 R.trim))
  have OO : Hid (OwEraS w0.heap.size w1.heap.size (.slice ua R.eras.length uc) R.eras ((w1.setCell ⟨w.heap.size + 1 + 1 + 1 + 1, 0, none⟩ (.slice ua R.eras.length uc)).setCell ⟨w.heap.size + 1 + 1 + 1 + 1, 1, none⟩ (.int .i64 R.trim))) := OwK.far (OwK.far O1 (by omega) _) (by omega) _
  have sV : w1.heap.size = ((w1.setCell ⟨w.heap.size + 1 + 1 + 1 + 1, 0, none⟩ (.slice ua R.eras.length uc)).setCell ⟨w.heap.size + 1 + 1 + 1 + 1, 1, none⟩ (.int .i64 R.trim)).heap.size := by simp
  have s0 := B0.size
  clear CT O1 b1 x0 x1 y0 y1
  go_wp2_with fail
  generalize (w1.setCell ⟨w.heap.size + 1 + 1 + 1 + 1, 0, none⟩ (.slice ua R.eras.length uc)).setCell ⟨w.heap.size + 1 + 1 + 1 + 1, 1, none⟩ (.int .i64 R.trim) = V at *
  have q0 := ((dUnhide ZZ).2 0 _ rfl).1
  have q1 := ((dUnhide ZZ).2 1 _ rfl).1
  refine bodyPost_ret (v := .tuple #[.agg #[.slice ua R.eras.length uc, .int .i64 R.trim], .bool s]) (by simp [results, Tryd.results15, go_sem, q0, q1]) rfl ⟨⟨_, rfl, ⟨_, rfl, OwK.wide (dUnhide OO) s0 (by omega)⟩⟩, dUnhide BB⟩
end Go.Proofs.YtfipenjojgflmaaDoor

