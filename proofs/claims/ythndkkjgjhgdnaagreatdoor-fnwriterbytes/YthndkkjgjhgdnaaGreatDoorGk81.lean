/- Several texts in one: WrF, ChoA, ChoB, PutO. -/
import Derived.Test.YthndkkjgjhgdnaaGreatDoorWrE
import Derived.Test.YthndkkjgjhgdnaaGreatDoorGaC
namespace Go.Proofs.YthndkkjgjhgdnaaGreatDoor
open Go.ChangeShapes Go.WideShapes Go.ChangeAt Go.RowKit
set_option linter.unusedVariables false
set_option linter.unusedSimpArgs false
set_option maxRecDepth 100000

/-- Where the first is for which q holds, or -1. -/
def idxW {α : Type} (q : α → Bool) : List α → Int
  | [] => -1
  | e :: l => if q e then 0 else (if idxW q l = -1 then -1 else idxW q l + 1)
theorem idxW_ge {α : Type} (q : α → Bool) : ∀ l : List α, -1 ≤ idxW q l ∧ idxW q l < l.length
  | [] => by simp [idxW]
  | e :: l => by
    have := idxW_ge q l
    unfold idxW
    split
    · simp <;> omega
    · split <;> simp <;> omega
theorem idxW_none {α : Type} (q : α → Bool) : ∀ l : List α, (∀ i (h : i < l.length), q l[i] = false) → idxW q l = -1
  | [], _ => rfl
  | e :: l, h => by
    have h0 : q e = false := h 0 (by simp)
    have h1 := idxW_none q l fun i hi => h (i + 1) (by simpa using hi)
    unfold idxW
    rw [h0, h1]
    rfl
theorem idxW_at {α : Type} (q : α → Bool) : ∀ (l : List α) (k : Nat) (hk : k < l.length), (∀ i (h : i < l.length), i < k → q l[i] = false) → q l[k] = true → idxW q l = (k : Int)
  | [], k, hk, _, _ => by simp at hk
  | e :: l, 0, hk, _, ho => by
    have h0 : q e = true := ho
    unfold idxW
    rw [h0]
    rfl
  | e :: l, k + 1, hk, h, ho => by
    have h0 : q e = false := h 0 (by simp) (by omega)
    have h1 := idxW_at q l k (by simpa using hk) (fun i hi hik => h (i + 1) (by simpa using hi) (by omega)) (by simpa using ho)
    unfold idxW
    rw [h0, h1, if_neg (by simp), if_neg (by omega)]
    omega
theorem idxW_neg {α : Type} {q : α → Bool} {l : List α} : idxW q l = -1 ↔ ∀ e ∈ l, q e = false := by
  induction l with
  | nil => simp [idxW]
  | cons e l ih =>
    have hg := idxW_ge q l
    unfold idxW
    cases hq : q e with
    | true => simp [hq]
    | false =>
      rw [if_neg (by simp)]
      by_cases h : idxW q l = -1
      · rw [if_pos h]
        simp only [List.mem_cons, true_iff]
        rintro x (rfl | hx)
        · exact hq
        · exact ih.1 h x hx
      · rw [if_neg h]
        constructor
        · intro h'; omega
        · intro h'
          exact absurd (ih.2 fun x hx => h' x (List.mem_cons_of_mem _ hx)) h
set_option maxHeartbeats 2000000 in
/-- slices.IndexFunc: the function's own contract is handed in. -/
theorem indexFuncW_any (v : Value) (rs : List (Nst Wd)) (F : Nat) (caps : Array Value) (q : Wd → Bool) (w : World) (hF : ∀ args w, (callFunc F args).run Tryz.prog w = .ok (.enter F args) w) (hr : Rw 3 wdCl w v rs)
    (hq : ∀ W, Below w.heap.size w W → ∀ k (hk : k < rs.length), Calls Tryz.prog F (#[.agg #[.string rs[k].m.data, .slice rs[k].a rs[k].m.acks.length rs[k].c, .bool rs[k].m.done]] ++ caps) W fun e w' => e = .returned (.bool (q rs[k].m)) ∧ Below W.heap.size W w') :
    Calls Tryz.prog 147 #[v, .func (.func F) #[] caps] w fun e w' => e = .returned (.int .i64 (idxW q (rs.map Nst.m))) ∧ Below w.heap.size w w' := by
  have HV := dHide fun W (hb : Below w.heap.size w W) => hr.below hb
  have HQ := dHide hq
  have hl0 := hr.1
  obtain ⟨-, a, cap, rfl, -, -⟩ := hr
  have FN : Hid ((∀ i (h : i < rs.length), q rs[i].m = false) → idxW q (rs.map Nst.m) = -1) := fun h => idxW_none _ _ fun i hi => by rw [List.getElem_map]; exact h i (by simpa using hi)
  have FA : Hid (∀ k (hk : k < rs.length), (∀ i (h : i < rs.length), i < k → q rs[i].m = false) → q rs[k].m = true → idxW q (rs.map Nst.m) = (k : Int)) := fun k hk h1 h2 => idxW_at _ _ k (by simpa using hk) (fun i hi hik => by rw [List.getElem_map]; exact h1 i (by simpa using hi) hik) (by rw [List.getElem_map]; exact h2)
  generalize idxW q (rs.map Nst.m) = M at *
  clear hq
  go_enter Tryz.func147, Tryz.ntmps147
  go_wp2
  go_loopw [8] (fun x wr => ∃ k : Nat, x = .int .i64 (k : Int) ∧ k ≤ rs.length ∧ Hid (∀ i (h : i < rs.length), i < k → q rs[i].m = false) ∧ Below w.heap.size w wr) (fun x _ => rs.length - (intOf x).toNat)
  case atStart => exact ⟨0, rfl, Nat.zero_le _, fun i h h' => by omega, Below.refl _ _⟩
  case round =>
    obtain ⟨k, rfl, hk, hc, hb⟩ := hrel
    by_cases hlt : (k : Int) < (rs.length : Int)
    · have hkl : k < rs.length := by omega
      obtain ⟨b, off, rfl, he⟩ := (dUnhide HV _ hb).word hkl
      obtain ⟨c0, c1, c2⟩ := he k hkl
      have CE := dHide (dUnhide HQ wr hb k hkl)
      cases hcl : q rs[k].m with
      | false =>
        rw [hcl] at CE
        have H2 : Hid (∀ i (h : i < rs.length), i < k + 1 → q rs[i].m = false) := fun i h hi => by
          by_cases e : i = k
          · subst e; exact hcl
          · exact dUnhide hc i h (by omega)
        generalize rs[k] = y at *
        obtain ⟨ya, yc, yd, yn, yb⟩ := y
        simp only at *
        clear hc he
        go_wp2_with fail
        refine (dUnhide CE).mono ?_
        rintro e w1 ⟨rfl, b1⟩
        clear CE c0 c1 c2
        go_wp2
        go_roundw
        case rel => exact ⟨k + 1, by go_num, by omega, H2, belowThen hb b1⟩
        case measure => simp [intOf]; omega
      | true =>
        rw [hcl] at CE
        have e1 := dUnhide FA k hkl (dUnhide hc) hcl
        subst e1
        generalize rs[k] = y at *
        obtain ⟨ya, yc, yd, yn, yb⟩ := y
        simp only at *
        clear hc he FN FA
        go_wp2_with fail
        refine (dUnhide CE).mono ?_
        rintro e w1 ⟨rfl, b1⟩
        clear CE c0 c1 c2
        go_wp2
        go_ret
        exact ⟨rfl, belowThen hb b1⟩
    · have e1 := dUnhide FN fun i h => dUnhide hc i h (by omega)
      subst e1
      clear hc FN FA
      go_wp2
      go_ret
      exact ⟨rfl, hb⟩
/-- slices.ContainsFunc. -/
theorem containsFuncW_any (v : Value) (rs : List (Nst Wd)) (F : Nat) (caps : Array Value) (q : Wd → Bool) (w : World) (hF : ∀ args w, (callFunc F args).run Tryz.prog w = .ok (.enter F args) w) (hr : Rw 3 wdCl w v rs) (hl : rs.length ≤ 1048576)
    (hq : ∀ W, Below w.heap.size w W → ∀ k (hk : k < rs.length), Calls Tryz.prog F (#[.agg #[.string rs[k].m.data, .slice rs[k].a rs[k].m.acks.length rs[k].c, .bool rs[k].m.done]] ++ caps) W fun e w' => e = .returned (.bool (q rs[k].m)) ∧ Below W.heap.size W w') :
    Calls Tryz.prog 139 #[v, .func (.func F) #[] caps] w fun e w' => RetB (∃ e ∈ rs.map Nst.m, q e = true) e ∧ Below w.heap.size w w' := by
  have C1 := dHide (indexFuncW_any v rs F caps q w hF hr hq)
  have hg := idxW_ge q (rs.map Nst.m)
  have R : Hid (RetB (∃ e ∈ rs.map Nst.m, q e = true) (.returned (.bool (decide (0 ≤ idxW q (rs.map Nst.m)))))) := ⟨_, rfl, by
    rw [decide_eq_true_iff]
    constructor
    · intro h
      apply Classical.byContradiction
      intro hno
      have : idxW q (rs.map Nst.m) = -1 := idxW_neg.2 fun e he => by
        cases hqe : q e with
        | false => rfl
        | true => exact absurd ⟨e, he, hqe⟩ hno
      omega
    · rintro ⟨e, he, hqe⟩
      apply Classical.byContradiction
      intro hno
      have h1 : idxW q (rs.map Nst.m) = -1 := by omega
      have := idxW_neg.1 h1 e he
      rw [hqe] at this
      cases this⟩
  have hl2 : (rs.map Nst.m).length ≤ 1048576 := by simpa using hl
  generalize (rs.map Nst.m).length = n at *
  generalize idxW q (rs.map Nst.m) = M at *
  clear hF hr hq
  go_enter Tryz.func139, Tryz.ntmps139
  go_wp2_with fail
  refine (dUnhide C1).mono ?_
  rintro e w1 ⟨rfl, b1⟩
  clear C1
  go_wp2
  go_ret
  exact ⟨dUnhide R, b1⟩
theorem wordsOkFn (q : Wd → Bool) (p : Nst Wd) (sc : Value) (ds : List Int) (cop : Int) (bv b o : Nat) (w : World) (hv : w.cell? ⟨bv, 0, none⟩ = some (.pointer (some ⟨b, o, none⟩))) (hX : w.cell? ⟨b, o, none⟩ = some sc ∧ w.cell? ⟨b, o + 1, none⟩ = some (.int .i64 cop)) (hc : Ns w sc ds) (hn : Ns w (Sv Wd.acks p) p.m.acks) (had : allInt ds) (hld : ds.length ≤ 1048576) (c0 : -9223372036854775808 ≤ cop) (c1 : cop ≤ 9223372036854775807) (hf : fitWd p.m) (hlx : p.m.acks.length ≤ 1048576) (hq : q p.m = true ↔ ¬ wdP ds cop p.m) :
    Calls Tryz.prog 140 #[.agg #[.string p.m.data, .slice p.a p.m.acks.length p.c, .bool p.m.done], .pointer (some ⟨bv, 0, none⟩)] w fun e w' => e = .returned (.bool (q p.m)) ∧ Below w.heap.size w w' := by
  have ba : ∀ (w : World) o, Below w.heap.size w (w.alloc o) := fun w o => (Below.refl _ _).alloc (Nat.le_refl _) o
  have C1 := dHide fun W (hb : Below w.heap.size w W) => wordOk_any p sc ds cop W (hc.below hb) (hn.below hb) had hld c0 c1 hf hlx
  obtain ⟨pa, pc, yd, yn, yb⟩ := p
  simp only at *
  obtain ⟨-, ca, cc, rfl, -, -⟩ := hc
  obtain ⟨x0, x1⟩ := hX
  have bA := ba w (.cells #[.string yd, .slice pa yn.length pc, .bool yb] 82)
  have HC : Hid (∀ W, Below w.heap.size w W → W.cell? ⟨bv, 0, none⟩ = some (.pointer (some ⟨b, o, none⟩)) ∧ W.cell? ⟨b, o, none⟩ = some (.slice ca ds.length cc) ∧ W.cell? ⟨b, o + 1, none⟩ = some (.int .i64 cop)) := fun W hb => ⟨(hb.cell (p := ⟨bv, 0, none⟩) (dCell_lt hv)).trans hv, (hb.cell (p := ⟨b, o, none⟩) (dCell_lt x0)).trans x0, (hb.cell (p := ⟨b, o + 1, none⟩) (dCell_lt x1)).trans x1⟩
  have E1 := dHide (Bx.new w [.string yd, .slice pa yn.length pc, .bool yb] 82)
  generalize wdP ds cop ⟨yd, yn, yb⟩ = P at *
  generalize q ⟨yd, yn, yb⟩ = qb at *
  clear hn x0 x1 hv
  have HQ := dHide hq
  clear hq
  go_enter Tryz.func140, Tryz.ntmps140
  go_wp2_with fail
  generalize w.alloc (.cells #[.string yd, .slice pa yn.length pc, .bool yb] 82) = w1 at *
  have bd := belowThen bA (show Below w1.heap.size w1 w1.drew from (Below.refl _ _).drew)
  have p0 := dUnhide HC w1 bA
  have pS := And.intro p0 (And.intro (dUnhide E1 0 _ rfl) (And.intro (dUnhide E1 1 _ rfl) (dUnhide E1 2 _ rfl)))
  go_region_held3 (fun W => (W.cell? ⟨bv, 0, none⟩ = some (.pointer (some ⟨b, o, none⟩)) ∧ W.cell? ⟨b, o, none⟩ = some (.slice ca ds.length cc) ∧ W.cell? ⟨b, o + 1, none⟩ = some (.int .i64 cop)) ∧ W.cell? ⟨w.heap.size, 0, none⟩ = some (.string yd) ∧ W.cell? ⟨w.heap.size, 1, none⟩ = some (.slice pa yn.length pc) ∧ W.cell? ⟨w.heap.size, 2, none⟩ = some (.bool yb)) (first | exact qS | exact pS | go_keep)
    (first
      | (go_at_call 141; refine (dUnhide C1 _ bd).mono ?_; rintro e w5 ⟨⟨b1, rfl, hb1⟩, b5⟩; have B5 := belowThen bd b5; have E5 := (dUnhide E1).below (belowThen (show Below w1.heap.size w1 w1.drew from (Below.refl _ _).drew) b5); have qS := And.intro (dUnhide HC w5 B5) (And.intro (E5 0 _ rfl) (And.intro (E5 1 _ rfl) (E5 2 _ rfl)))))
  all_goals
    have R : Hid ((!b1) = qb) := by
      rw [Hid]
      cases b1 with
      | true =>
        cases qb with
        | false => rfl
        | true => exact absurd (hb1.1 rfl) ((dUnhide HQ).1 rfl)
      | false => exact ((dUnhide HQ).2 fun h => by have := hb1.2 h; cases this).symm
    clear C1 hb1 HQ
    go_wp2
    go_ret
    exact ⟨by rw [← dUnhide R]; rfl, B5⟩
set_option maxHeartbeats 4000000 in
theorem wordsOk_any (b o cap : Nat) (a : Option Addr) (sc : Value) (ds : List Int) (cop : Int) (rs : List (Nst Wd)) (w : World) (hX : w.cell? ⟨b, o, none⟩ = some sc ∧ w.cell? ⟨b, o + 1, none⟩ = some (.int .i64 cop)) (hcell : w.cell? ⟨b, o + 2, none⟩ = some (.slice a rs.length cap)) (hc : Ns w sc ds) (hr : Rw 3 wdCl w (.slice a rs.length cap) rs) (hn : ∀ p ∈ rs, Ns w (Sv Wd.acks p) p.m.acks) (had : allInt ds) (hld : ds.length ≤ 1048576) (c0 : -9223372036854775808 ≤ cop) (c1 : cop ≤ 9223372036854775807) (hl : rs.length ≤ 1048576) (hf : ∀ k (hk : k < rs.length), rs[k].m.acks.length ≤ 1048576 ∧ fitWd rs[k].m) :
    Calls Tryz.prog 130 #[.pointer (some ⟨b, o, none⟩)] w fun e w' => RetB (rs.length ≤ 60 ∧ (∀ e ∈ rs.map Nst.m, wdP ds cop e) ∧ openN (rs.map Nst.m) ≤ 6) e ∧ Below w.heap.size w w' := by
  have ba : ∀ (w : World) o, Below w.heap.size w (w.alloc o) := fun w o => (Below.refl _ _).alloc (Nat.le_refl _) o
  obtain ⟨bb, off, ha⟩ : ∃ bb off, rs = [] ∨ a = some ⟨bb, off, none⟩ := by
    obtain ⟨-, a', cap', e, -, h⟩ := hr
    cases e
    rcases h with h | ⟨bb, off, rfl, -⟩
    · exact ⟨0, 0, .inl h⟩
    · exact ⟨bb, off, .inr rfl⟩
  have HCw := dHide fun W (hb : Below w.heap.size w W) => (hb.cell (p := ⟨b, o + 2, none⟩) (dCell_lt hcell)).trans hcell
  have CO := dHide fun W (hb : Below w.heap.size w W) => winOpen_any b o bb off cap a rs W (dUnhide HCw W hb) (hr.below hb) ha hl
  obtain ⟨q, hq⟩ : ∃ q : Wd → Bool, ∀ y, q y = true ↔ ¬ wdP ds cop y := ⟨fun y => @decide (¬ wdP ds cop y) (Classical.propDecidable _), fun y => @decide_eq_true_iff _ (Classical.propDecidable _)⟩
  have CF := dHide fun W (hb : Below w.heap.size w W) (hV : ∀ W', Below W.heap.size W W' → W'.cell? ⟨w.heap.size, 0, none⟩ = some (.pointer (some ⟨b, o, none⟩))) => containsFuncW_any _ rs 140 #[.pointer (some ⟨w.heap.size, 0, none⟩)] q W Tryz.call140 (hr.below hb) hl (fun W' hb' k hk => wordsOkFn q rs[k] sc ds cop w.heap.size b o W' (hV W' hb') ⟨((belowThen hb hb').cell (p := ⟨b, o, none⟩) (dCell_lt hX.1)).trans hX.1, ((belowThen hb hb').cell (p := ⟨b, o + 1, none⟩) (dCell_lt hX.2)).trans hX.2⟩ (hc.below (belowThen hb hb')) ((hn _ (List.getElem_mem hk)).below (belowThen hb hb')) had hld c0 c1 (hf k hk).2 (hf k hk).1 (hq _))
  have PE : Hid ((∃ e ∈ rs.map Nst.m, q e = true) ↔ ¬ ∀ e ∈ rs.map Nst.m, wdP ds cop e) := by
    constructor
    · rintro ⟨e, he, h⟩ ha
      exact (hq e).1 h (ha e he)
    · intro h
      apply Classical.byContradiction
      intro hno
      refine h fun e he => Classical.byContradiction fun hne => hno ⟨e, he, (hq e).2 hne⟩
  have OL : Hid ((opI (rs.map Nst.m) rs.length).length = openN (rs.map Nst.m)) := by
    have h1 := opI_len (rs.map Nst.m) rs.length (by simp)
    rw [List.take_of_length_le (by simp)] at h1
    exact h1
  generalize (∃ e ∈ rs.map Nst.m, q e = true) = PX at *
  generalize (∀ e ∈ rs.map Nst.m, wdP ds cop e) = PY at *
  generalize openN (rs.map Nst.m) = on at *
  have bA := ba w (.cells #[.pointer (some ⟨b, o, none⟩)] 124)
  have V1 := dHide (Bx.new w [.pointer (some ⟨b, o, none⟩)] 124)
  have c2 := dUnhide HCw _ bA
  clear hX hc hr hn hf hq hcell ha
  by_cases h60 : 60 < (rs.length : Int)
  · have R : RetB (rs.length ≤ 60 ∧ PY ∧ on ≤ 6) (.returned (.bool false)) := RetB.no fun h => by have := h.1; omega
    clear CO CF
    go_enter Tryz.func130, Tryz.ntmps130
    go_wp2
    go_ret
    exact ⟨R, bA⟩
  have C1 := dHide (dUnhide CO _ bA)
  go_enter Tryz.func130, Tryz.ntmps130
  go_wp2_with fail
  generalize w.alloc (.cells #[.pointer (some ⟨b, o, none⟩)] 124) = w1 at *
  refine (dUnhide C1).mono ?_
  rintro e w2 ⟨⟨u, rfl, A2⟩, b2⟩
  obtain ⟨ua, uc, rfl⟩ := ApR.slice elemO A2
  have el : ((opI (rs.map Nst.m) rs.length).map (adW bb off)).length = on := by rw [List.length_map]; exact dUnhide OL
  rw [el]
  have B2 := belowThen bA b2
  have V2 := dHide ((dUnhide V1).below b2)
  have v0 := dUnhide V2 0 _ rfl
  clear c2
  have c2 := dUnhide HCw _ B2
  clear C1 CO V1 b2 bA A2 el
  by_cases h6 : 6 < (on : Int)
  · have R : RetB (rs.length ≤ 60 ∧ PY ∧ on ≤ 6) (.returned (.bool false)) := RetB.no fun h => by have := h.2.2; omega
    clear CF
    go_wp2
    go_ret
    exact ⟨R, B2⟩
  have C3 := dHide (dUnhide CF w2 B2 fun W' hb' => (dUnhide V2).below hb' 0 _ rfl)
  clear CF
  go_wp2_with fail
  refine (dUnhide C3).mono ?_
  rintro e w3 ⟨⟨b3, rfl, h3⟩, b3'⟩
  have R : Hid (RetB (rs.length ≤ 60 ∧ PY ∧ on ≤ 6) (.returned (.bool (!b3)))) := ⟨_, rfl, by
    have h5 := (dUnhide PE)
    cases b3 with
    | true => exact ⟨fun h => by simp at h, fun h => absurd h.2.1 (h5.1 (h3.1 rfl))⟩
    | false => exact ⟨fun _ => ⟨by omega, Classical.byContradiction (fun hno => by have := h3.2 (h5.2 hno); cases this), by omega⟩, fun _ => rfl⟩⟩
  have B3 := belowThen B2 b3'
  clear h3 C3 PE
  go_wp2
  go_ret
  exact ⟨dUnhide R, B3⟩
theorem wrP_iff (ds : List Int) (cop : Int) (m : Wt) : wrP ds cop m ↔ cfgP ds cop ∧ (1 ≤ m.epoch ∧ m.epoch ≤ 30) ∧ m.words.length ≤ 60 ∧ (∀ e ∈ m.words, wdP ds cop e) ∧ openN m.words ≤ 6 := by
  unfold wrP
  constructor
  · rintro ⟨h1, h2, h3, h4, h5⟩
    exact ⟨h1, h2, h3, fun e he => by obtain ⟨i, hi, rfl⟩ := List.mem_iff_getElem.1 he; exact h4 i hi, h5⟩
  · rintro ⟨h1, h2, h3, h4, h5⟩
    exact ⟨h1, h2, h3, fun i hi => h4 _ (List.getElem_mem hi), h5⟩
set_option maxHeartbeats 4000000 in
theorem implWriterOk_any (cv v : Value) (c : List Int × Int) (m : Wt) (w : World) (hc : RdConfig cv c w) (hv : RdWriter v m w) (okc : okConfig c) (ok : okWriter m) (hsc : sizConfig c ≤ 1048576) (hs : sizWriter m ≤ 1048576) :
    Calls Tryz.prog 68 #[cv, v] w fun e w' => RetB (wrP c.1 c.2 m) e ∧ Below w.heap.size w w' := by
  have ba : ∀ (w : World) o, Below w.heap.size w (w.alloc o) := fun w o => (Below.refl _ _).alloc (Nat.le_refl _) o
  obtain ⟨ds, cop⟩ := c
  obtain ⟨sc, rfl, hc⟩ := hc
  obtain ⟨sv, rfl, rs, hm, hr, hn⟩ := hv
  obtain ⟨had, c0, c1⟩ := okc
  unfold sizConfig at hsc
  simp only at *
  have em : m.words.length = rs.length := by rw [← hm, List.length_map]
  have hle : rs.length ≤ 1048576 := by unfold sizWriter sizWordS at hs; omega
  have HL : ∀ k (hk : k < rs.length), rs[k].m.acks.length ≤ 1048576 ∧ fitWd rs[k].m := fun k hk => by
    have h1 := sumW_mem (ms := rs.map Nst.m) (k := k) (by simpa using hk)
    rw [List.getElem_map] at h1
    unfold sizWriter sizWordS at hs
    rw [← hm] at hs
    exact ⟨by omega, ok.1 _ (by rw [← hm]; exact List.mem_map.2 ⟨rs[k], List.getElem_mem hk, rfl⟩)⟩
  have PD := wrP_iff ds cop m
  have CC := dHide fun W (hb : Below w.heap.size w W) => implCfg_any sc ds cop W (hc.below hb) had hsc c0 c1
  have HCS := hc
  have HRS := hr
  obtain ⟨-, ca, cc, rfl, -, -⟩ := hc
  obtain ⟨-, a, cap, rfl, -, -⟩ := hr
  have CW := dHide fun W b (hb : Below w.heap.size w W) (hX : W.cell? ⟨b, 1, none⟩ = some (.slice ca ds.length cc) ∧ W.cell? ⟨b, 1 + 1, none⟩ = some (.int .i64 cop)) (h3 : W.cell? ⟨b, 1 + 2, none⟩ = some (.slice a rs.length cap)) => wordsOk_any b 1 cap a _ ds cop rs W hX h3 (HCS.below hb) (HRS.below hb) (fun p hp => (hn p hp).below hb) had hsc c0 c1 hle HL
  rw [hm] at CW
  rw [em] at PD
  generalize wrP ds cop m = P at *
  generalize (∀ e ∈ m.words, wdP ds cop e) = PY at *
  generalize openN m.words = on at *
  generalize m.epoch = ep at *
  have CO := dHide fun W => writingOf_any ca ds.length cc cop ep a rs.length cap W
  replace PD := dHide PD
  clear hm hs ok em HL HCS HRS hn hle
  have bA := belowThen (ba w (.cells #[.slice ca ds.length cc, .int .i64 cop] 26)) (ba _ (.cells #[.int .i64 ep, .slice a rs.length cap] 40))
  go_enter Tryz.func68, Tryz.ntmps68
  go_wp2_with fail
  refine (dUnhide CO _).mono ?_
  rintro e w1 ⟨⟨b, rfl, X1⟩, b1⟩
  have B1 := belowThen bA b1
  clear CO bA b1
  have CI : Calls Tryz.prog 105 #[.pointer (some ⟨b, 0, none⟩)] w1 fun e w' => RetB P e ∧ Below w.heap.size w w' := by
    have x0 := (X1.2 0 _ rfl).1
    have x1 := (X1.2 1 _ rfl).1
    have x2 := (X1.2 2 _ rfl).1
    go_enter Tryz.func105, Tryz.ntmps105
    go_wp2_with fail
    refine (dUnhide CC _ B1).mono ?_
    rintro e w2 ⟨⟨b2, rfl, h2⟩, bl2⟩
    have B2 := belowThen B1 bl2
    have X2 := X1.below bl2
    clear x0 x1 x2 X1 bl2 CC B1
    have x0 := (X2.2 0 _ rfl).1
    cases b2
    · have R : RetB P (.returned (.bool false)) := RetB.no fun h => by have := h2.2 ((dUnhide PD).1 h).1; cases this
      clear h2
      go_wp2
      go_ret
      exact ⟨R, B2⟩
    have H2 := dHide (h2.1 rfl)
    clear h2
    by_cases e1 : ¬ 1 ≤ ep
    · have R : RetB P (.returned (.bool false)) := RetB.no fun h => e1 ((dUnhide PD).1 h).2.1.1
      go_wp2
      go_ret
      exact ⟨R, B2⟩
    replace e1 : 1 ≤ ep := by omega
    by_cases e2 : ¬ ep ≤ 30
    · have R : RetB P (.returned (.bool false)) := RetB.no fun h => e2 ((dUnhide PD).1 h).2.1.2
      go_wp2
      go_ret
      exact ⟨R, B2⟩
    replace e2 : ep ≤ 30 := by omega
    have C3 := dHide (dUnhide CW w2 b B2 ⟨(X2.2 1 _ rfl).1, (X2.2 2 _ rfl).1⟩ (X2.2 3 _ rfl).1)
    clear CW X2
    go_wp2_with fail
    refine (dUnhide C3).mono ?_
    rintro e w3 ⟨⟨b3, rfl, h3⟩, bl3⟩
    have R : Hid (RetB P (.returned (.bool b3))) := ⟨_, rfl, fun h => (dUnhide PD).2 ⟨dUnhide H2, ⟨e1, e2⟩, h3.1 h⟩, fun h => h3.2 ((dUnhide PD).1 h).2.2⟩
    have B3 := belowThen B2 bl3
    clear h3 C3 PD H2
    go_wp2
    go_ret
    exact ⟨dUnhide R, B3⟩
  replace CI := dHide CI
  clear CC CW PD X1
  go_wp2_with fail
  refine (dUnhide CI).mono ?_
  rintro e w2 ⟨⟨b2, rfl, h2⟩, B2⟩
  have R : Hid (RetB P (.returned (.bool b2))) := ⟨_, rfl, h2⟩
  clear h2 CI
  go_wp2
  go_ret
  exact ⟨dUnhide R, B2⟩
end Go.Proofs.YthndkkjgjhgdnaaGreatDoor
namespace Go.Proofs.YthndkkjgjhgdnaaGreatDoor
open Go.ChangeShapes Go.WideShapes Go.ChangeAt Go.RowKit
set_option linter.unusedVariables false

/-- Whether bit k of m is set. -/
def bitOn (m : Int) (k : Nat) : Bool := m / 2 ^ k % 2 == 1
/-- The first k bits of m that are set. -/
def bitsTo (m : Int) (k : Nat) : List Int := ((List.range k).filter fun i => bitOn m i).map fun i : Nat => (i : Int)
/-- MaskNodes. -/
def maskL (m : Int) : List Int := if 0 ≤ m ∧ m ≤ 255 then bitsTo m 8 else []
theorem bitsTo_succ (m : Int) (k : Nat) : bitsTo m (k + 1) = if bitOn m k then bitsTo m k ++ [(k : Int)] else bitsTo m k := by
  unfold bitsTo
  rw [List.range_succ, List.filter_append, List.map_append]
  cases h : bitOn m k <;> simp [h]
theorem bitsTo_len (m : Int) (k : Nat) : (bitsTo m k).length ≤ k := by
  unfold bitsTo
  rw [List.length_map]
  exact Nat.le_trans (List.length_filter_le _ _) (by simp)
theorem mem_bitsTo {m : Int} {k : Nat} {x : Int} : x ∈ bitsTo m k ↔ ∃ i : Nat, i < k ∧ bitOn m i = true ∧ (i : Int) = x := by
  simp [bitsTo, and_assoc]
theorem bitsTo_asc (m : Int) (k : Nat) : (bitsTo m k).Pairwise (· < ·) := by
  unfold bitsTo
  refine List.pairwise_map.2 ((List.pairwise_lt_range.filter _).imp fun {a b} h => by omega)
theorem maskL_asc (m : Int) : ascP (maskL m) 0 7 := by
  rw [ascP_iff]
  unfold maskL
  split
  · refine ⟨bitsTo_asc m 8, fun x hx => ?_⟩
    obtain ⟨i, h1, -, rfl⟩ := mem_bitsTo.1 hx
    omega
  · exact ⟨List.Pairwise.nil, fun x h => by cases h⟩
theorem maskL_len (m : Int) : (maskL m).length ≤ 8 := by
  unfold maskL
  split
  · exact bitsTo_len m 8
  · simp
theorem i64_and1 (n : Int) : bits .and .i64 n 1 = n % 2 := by
  have h1 : (BitVec.ofInt 64 1).toNat = 2 ^ 1 - 1 := by decide
  have key : (BitVec.ofInt 64 n &&& BitVec.ofInt 64 1).toNat = (n % ((2 ^ 64 : Nat) : Int)).toNat % 2 ^ 1 := by
    rw [BitVec.toNat_and, BitVec.toNat_ofInt, h1, Nat.and_two_pow_sub_one_eq_mod]
  show IntKind.i64.wrap ((BitVec.ofInt 64 n &&& BitVec.ofInt 64 1).toNat : Nat) = n % 2
  rw [key, IntKind.wrap_i64]
  omega
/-- A bit more. -/
def orB (x : Int) (i : Int) : Int := bits .or .i64 x (2 ^ i.toNat)
/-- NodesMask of what is right. -/
def orL (xs : List Int) : Int := xs.foldl orB 0
theorem orL_take (xs : List Int) (k : Nat) (h : k < xs.length) : orL (xs.take (k + 1)) = orB (orL (xs.take k)) xs[k] := by
  rw [orL, List.take_succ_eq_append_getElem h, List.foldl_append]
  rfl
theorem orL_mask : ∀ m : Fin 256, orL (maskL ((m.val : Nat) : Int)) = ((m.val : Nat) : Int) := by decide +kernel
/-- Each ascending list of numbers up to 7 is that of a mask. -/
theorem mask_of (xs : List Int) (h : ascP xs 0 7) : ∃ m : Fin 256, maskL ((m.val : Nat) : Int) = xs := by
  have hall : ∀ b0 b1 b2 b3 b4 b5 b6 b7 : Bool, ∃ m : Fin 256, maskL ((m.val : Nat) : Int) = ([((0 : Int), b0), (1, b1), (2, b2), (3, b3), (4, b4), (5, b5), (6, b6), (7, b7)].filter (fun p => p.2)).map (fun p => p.1) := by
    intro b0 b1 b2 b3 b4 b5 b6 b7
    let g : Bool → Nat → Nat := fun b i => if b then 2 ^ i else 0
    have hm : g b0 0 + g b1 1 + g b2 2 + g b3 3 + g b4 4 + g b5 5 + g b6 6 + g b7 7 < 256 := by cases b0 <;> cases b1 <;> cases b2 <;> cases b3 <;> cases b4 <;> cases b5 <;> cases b6 <;> cases b7 <;> decide
    refine ⟨⟨_, hm⟩, ?_⟩
    revert hm
    revert b0 b1 b2 b3 b4 b5 b6 b7
    decide +kernel
  rw [ascP_iff] at h
  obtain ⟨m, hm⟩ := hall (decide (0 ∈ xs)) (decide (1 ∈ xs)) (decide (2 ∈ xs)) (decide (3 ∈ xs)) (decide (4 ∈ xs)) (decide (5 ∈ xs)) (decide (6 ∈ xs)) (decide (7 ∈ xs))
  refine ⟨m, List.Perm.eq_of_pairwise (le := fun a b : Int => a ≤ b) (fun a b _ _ h1 h2 => by omega) (((ascP_iff _ _ _).1 (maskL_asc _)).1.imp fun {a b} h => by omega) (h.1.imp fun {a b} h => by omega) ?_⟩
  refine (List.perm_ext_iff_of_nodup (((ascP_iff _ _ _).1 (maskL_asc _)).1.imp fun {a b} h => by omega) (h.1.imp fun {a b} h => by omega)).2 fun x => ?_
  rw [hm, List.mem_map]
  constructor
  · rintro ⟨p, hp, rfl⟩
    obtain ⟨hp1, hp2⟩ := List.mem_filter.1 hp
    simp only [List.mem_cons, List.not_mem_nil, or_false] at hp1
    rcases hp1 with rfl | rfl | rfl | rfl | rfl | rfl | rfl | rfl <;> simpa using hp2
  · intro hx
    have hb := h.2 x hx
    refine ⟨(x, true), List.mem_filter.2 ⟨?_, rfl⟩, rfl⟩
    have : x = 0 ∨ x = 1 ∨ x = 2 ∨ x = 3 ∨ x = 4 ∨ x = 5 ∨ x = 6 ∨ x = 7 := by omega
    rcases this with rfl | rfl | rfl | rfl | rfl | rfl | rfl | rfl <;> simp [hx]
theorem maskL_orL (xs : List Int) (h : ascP xs 0 7) : maskL (orL xs) = xs ∧ 0 ≤ orL xs ∧ orL xs ≤ 255 := by
  obtain ⟨m, rfl⟩ := mask_of xs h
  rw [orL_mask]
  exact ⟨rfl, by omega, by have := m.isLt; omega⟩
theorem orL_maskL (m : Int) (h : 0 ≤ m ∧ m ≤ 255) : orL (maskL m) = m := by
  obtain ⟨k, rfl⟩ := Int.eq_ofNat_of_zero_le h.1
  exact orL_mask ⟨k, by omega⟩
theorem pow8 (d : Nat) (h : d < 8) : wrap64 ((2 : Int) ^ d) = 2 ^ d := by
  have : ∀ d : Fin 8, wrap64 ((2 : Int) ^ d.val) = 2 ^ d.val := by decide +kernel
  exact this ⟨d, h⟩
end Go.Proofs.YthndkkjgjhgdnaaGreatDoor
namespace Go.Proofs.YthndkkjgjhgdnaaGreatDoor
open Go.ChangeShapes Go.WideShapes Go.ChangeAt Go.RowKit
set_option linter.unusedVariables false
set_option linter.unusedSimpArgs false

/-- y ahead of the first that is greater. -/
def putA (y : Int) : List Int → List Int
  | [] => [y]
  | a :: l => if y < a then y :: a :: l else a :: putA y l
theorem putA_len (y : Int) (l : List Int) : (putA y l).length = l.length + 1 := by
  induction l with
  | nil => rfl
  | cons a l ih =>
    unfold putA
    split
    · simp
    · simp [ih]
theorem putA_none {y : Int} {l : List Int} (h : ∀ a ∈ l, ¬ y < a) : putA y l = l ++ [y] := by
  induction l with
  | nil => rfl
  | cons a l ih =>
    unfold putA
    rw [if_neg (h a (by simp)), ih fun b hb => h b (by simp [hb])]
    rfl
theorem putA_snoc_yes {y a : Int} {l : List Int} (h : ∃ b ∈ l, y < b) : putA y (l ++ [a]) = putA y l ++ [a] := by
  induction l with
  | nil => obtain ⟨b, hb, -⟩ := h; cases hb
  | cons c l ih =>
    rw [List.cons_append]
    unfold putA
    by_cases hc : y < c
    · rw [if_pos hc, if_pos hc]; rfl
    · rw [if_neg hc, if_neg hc, ih ?_]
      · rfl
      · obtain ⟨b, hb, hy⟩ := h
        rcases List.mem_cons.1 hb with rfl | hb
        · exact absurd hy hc
        · exact ⟨b, hb, hy⟩
theorem putA_snoc_no {y a : Int} {l : List Int} (h : ∀ b ∈ l, ¬ y < b) (ha : y < a) : putA y (l ++ [a]) = l ++ [y, a] := by
  induction l with
  | nil => unfold putA; simp [ha]
  | cons c l ih =>
    rw [List.cons_append]
    unfold putA
    rw [if_neg (h c (by simp)), ih fun b hb => h b (by simp [hb])]
    rfl
theorem mem_putA {y x : Int} {l : List Int} : x ∈ putA y l ↔ x = y ∨ x ∈ l := by
  induction l with
  | nil => simp [putA]
  | cons a l ih =>
    unfold putA
    split
    · simp
    · simp only [List.mem_cons, ih]
      constructor
      · rintro (h | h | h)
        · exact .inr (.inl h)
        · exact .inl h
        · exact .inr (.inr h)
      · rintro (h | h | h)
        · exact .inr (.inl h)
        · exact .inl h
        · exact .inr (.inr h)
theorem putA_asc {y : Int} {l : List Int} (h : l.Pairwise (· < ·)) (hy : y ∉ l) : (putA y l).Pairwise (· < ·) := by
  induction l with
  | nil => simp [putA]
  | cons a l ih =>
    obtain ⟨h1, h2⟩ := List.pairwise_cons.1 h
    unfold putA
    split
    · rename_i hlt
      refine List.pairwise_cons.2 ⟨fun b hb => ?_, h⟩
      rcases List.mem_cons.1 hb with rfl | hb
      · exact hlt
      · have := h1 b hb
        omega
    · rename_i hlt
      refine List.pairwise_cons.2 ⟨fun b hb => ?_, ih h2 fun hm => hy (by simp [hm])⟩
      rcases mem_putA.1 hb with rfl | hb
      · have : b ≠ a := fun e => hy (by simp [e])
        omega
      · exact h1 b hb
/-- Where a put stands: whether y is in, and what is out. -/
def PutAt (y : Int) (l zs : List Int) (p : Bool) : Prop := (p = true → (∃ b ∈ l, y < b) ∧ zs = putA y l) ∧ (p = false → (∀ b ∈ l, ¬ y < b) ∧ zs = l)
theorem PutAt.in_ {y x : Int} {l zs : List Int} (h : PutAt y l zs false) (hx : y < x) : PutAt y (l ++ [x]) (zs ++ [y] ++ [x]) true := by
  obtain ⟨h1, rfl⟩ := h.2 rfl
  exact ⟨fun _ => ⟨⟨x, by simp, hx⟩, by rw [putA_snoc_no h1 hx]; simp⟩, fun h => by cases h⟩
theorem PutAt.on {y x : Int} {l zs : List Int} {p : Bool} (h : PutAt y l zs p) (hx : p = true ∨ ¬ y < x) : PutAt y (l ++ [x]) (zs ++ [x]) p := by
  cases p
  · obtain ⟨h1, rfl⟩ := h.2 rfl
    have hx : ¬ y < x := by rcases hx with h | h; cases h; exact h
    refine ⟨(fun h => by cases h), fun _ => ⟨fun b hb => ?_, rfl⟩⟩
    rcases List.mem_append.1 hb with hb | hb
    · exact h1 b hb
    · rw [List.mem_singleton.1 hb]; exact hx
  · obtain ⟨⟨b, hb, hy⟩, rfl⟩ := h.1 rfl
    exact ⟨fun _ => ⟨⟨b, by simp [hb], hy⟩, by rw [putA_snoc_yes ⟨b, hb, hy⟩]⟩, fun h => by cases h⟩
set_option maxHeartbeats 1000000 in
theorem l4Put_new (v : Value) (xs : List Int) (y : Int) (w : World) (hv : Ns w v xs) (hl : xs.length ≤ 2000000) (hy : y ∉ xs) :
    Calls Tryz.prog 103 #[v, .int .i64 y] w fun e w' => (∃ u, e = .returned u ∧ w'.ownsRow w.heap.size 3 1 u (putA y xs).length (ncells (putA y xs))) ∧ Below w.heap.size w w' := by
  have CH := dHide fun W (hb : Below w.heap.size w W) => l4Has_any v xs y W (hv.below hb)
  obtain ⟨h0, a, cap, rfl, -, hu⟩ := hv
  have HU := dHide hu
  clear hu
  go_enter Tryz.func103, Tryz.ntmps103
  go_wp2_with fail
  refine (dUnhide CH _ ((Below.refl _ _).alloc (Nat.le_refl _) _)).mono ?_
  rintro e w1 ⟨hr, rfl⟩
  obtain rfl := hr.of_no hy
  clear hr CH hy
  go_wp2
  go_loopw [5, 6, 7] (fun o q x wr => ∃ (k : Nat) (p : Bool) (zs : List Int), x = .int .i64 (k : Int) ∧ q = .bool p ∧ k ≤ xs.length ∧ wr.ownsRow w.heap.size 3 1 o zs.length (ncells zs) ∧ zs.length ≤ k + 1 ∧ (p = false → zs.length ≤ k) ∧ Hid (PutAt y (xs.take k) zs p) ∧ Below w.heap.size w wr) (fun _ _ x _ => xs.length - (intOf x).toNat)
  case atStart => exact ⟨0, false, [], rfl, rfl, Nat.zero_le _, World.ownsRow_made w #[] 0 (Nat.le_refl _) (by decide) (by simp), by simp, by simp, ⟨(fun h => by cases h), fun _ => ⟨(fun b h => by simp at h), by simp⟩⟩, (Below.refl _ _).alloc (Nat.le_refl _) _⟩
  case round =>
    obtain ⟨k, p, zs, rfl, rfl, hk, hown, hz1, hz2, hm, hb⟩ := hrel
    have hlt' := hown.lt
    by_cases hlt : (k : Int) < (xs.length : Int)
    · obtain ⟨b, off, rfl, hc⟩ : ∃ b off, a = some ⟨b, off, none⟩ ∧ ∀ i (h : i < xs.length), w.cell? ⟨b, off + i, none⟩ = some (.int .i64 xs[i]) := orN_of_lt (dUnhide HU) (k := k) (by omega)
      have hkl : k < xs.length := by omega
      have c0 := dHide (hc k hkl)
      have c1 : wr.cell? ⟨b, off + k, none⟩ = some (.int .i64 xs[k]) := (hb.cell (p := ⟨b, off + k, none⟩) (dCell_lt (hc k hkl))).trans (hc k hkl)
      have hT := dHide (List.take_succ_eq_append_getElem hkl)
      generalize xs[k] = x at *
      clear hc
      have hxb : (decide (y < x)) = true ∨ (decide (y < x)) = false := by cases decide (y < x) <;> simp
      by_cases hp : p = false ∧ y < x
      · obtain ⟨rfl, hyx⟩ := hp
        have hz3 := hz2 rfl
        clear hxb
        go_wp2_with (at_builtin; refine appN _ rfl _ _ rfl w.heap.size _ zs rfl (hown.alloc _) ⟨wr.heap.size, 0, none⟩ 1 1 [y] rfl rfl (one_int _ _ _) ?c3 ?c4 ?_)
        case c3 => (try simp only [List.length_append, List.length_cons, List.length_nil]); omega
        case c4 => have := hb.size; simp; omega
        intro v' w2 hown' hgrow
        have hb2 : Below w.heap.size w w2 := (hb.alloc hb.size _).grown hgrow (by have := hb.size; simp; omega) (fun k hk => (hlt' k hk).1)
        have hown2 := own_lenN hown'
        have c2 : w2.cell? ⟨b, off + k, none⟩ = some (.int .i64 x) := (hb2.cell (p := ⟨b, off + k, none⟩) (dCell_lt (dUnhide c0))).trans (dUnhide c0)
        have hlt2 := hown2.lt
        have HM : Hid (PutAt y (xs.take (k + 1)) (zs ++ [y] ++ [x]) true) := by rw [Hid, dUnhide hT]; exact (dUnhide hm).in_ hyx
        clear hown hown' hgrow hb hlt' c1 hm
        go_wp2_with (at_builtin; refine appN _ rfl _ _ rfl w.heap.size _ (zs ++ [y]) rfl (hown2.alloc _) ⟨w2.heap.size, 0, none⟩ 1 1 [x] rfl rfl (one_int _ _ _) ?c3 ?c4 ?_)
        case c3 => (try simp only [List.length_append, List.length_cons, List.length_nil]); omega
        case c4 => have := hb2.size; simp; omega
        intro v'' w3 hown3 hgrow3
        have hb3 : Below w.heap.size w w3 := (hb2.alloc hb2.size _).grown hgrow3 (by have := hb2.size; simp; omega) (fun k hk => (hlt2 k hk).1)
        have hown4 := own_lenN hown3
        clear hown2 hown3 hgrow3 hb2 hlt2 c2
        go_wp2
        go_roundw
        case rel => exact ⟨k + 1, true, _, by go_num, rfl, by omega, hown4, by simp; omega, (fun h => by cases h), by simpa using HM, hb3⟩
        case measure => simp [intOf]; omega
      · have hpx : p = true ∨ ¬ y < x := by
          cases p
          · exact .inr fun h => hp ⟨rfl, h⟩
          · exact .inl rfl
        have HM : Hid (PutAt y (xs.take (k + 1)) (zs ++ [x]) p) := by rw [Hid, dUnhide hT]; exact (dUnhide hm).on hpx
        clear hp hxb hm
        have hgo : ∀ (q : Bool), p = q → (q = true ∨ ¬ y < x) → True := fun _ _ _ => trivial
        clear hgo
        cases p
        · have hyx : ¬ y < x := by rcases hpx with h | h; cases h; exact h
          clear hpx
          have hz3 := hz2 rfl
          go_wp2_with (at_builtin; refine appN _ rfl _ _ rfl w.heap.size _ zs rfl (hown.alloc _) ⟨wr.heap.size, 0, none⟩ 1 1 [x] rfl rfl (one_int _ _ _) ?c3 ?c4 ?_)
          case c3 => (try simp only [List.length_append, List.length_cons, List.length_nil]); omega
          case c4 => have := hb.size; simp; omega
          intro v' w2 hown' hgrow
          have hb2 : Below w.heap.size w w2 := (hb.alloc hb.size _).grown hgrow (by have := hb.size; simp; omega) (fun k hk => (hlt' k hk).1)
          have hown2 := own_lenN hown'
          clear hown hown' hgrow hb hlt' c1
          go_wp2
          go_roundw
          case rel => exact ⟨k + 1, false, _, by go_num, rfl, by omega, hown2, by simp; omega, (fun _ => by simp; omega), HM, hb2⟩
          case measure => simp [intOf]; omega
        · clear hpx
          go_wp2_with (at_builtin; refine appN _ rfl _ _ rfl w.heap.size _ zs rfl (hown.alloc _) ⟨wr.heap.size, 0, none⟩ 1 1 [x] rfl rfl (one_int _ _ _) ?c3 ?c4 ?_)
          case c3 => (try simp only [List.length_append, List.length_cons, List.length_nil]); omega
          case c4 => have := hb.size; simp; omega
          intro v' w2 hown' hgrow
          have hb2 : Below w.heap.size w w2 := (hb.alloc hb.size _).grown hgrow (by have := hb.size; simp; omega) (fun k hk => (hlt' k hk).1)
          have hown2 := own_lenN hown'
          clear hown hown' hgrow hb hlt' c1
          go_wp2
          go_roundw
          case rel => exact ⟨k + 1, true, _, by go_num, rfl, by omega, hown2, by simp; omega, (fun h => by cases h), HM, hb2⟩
          case measure => simp [intOf]; omega
    · have e1 : xs.take k = xs := List.take_of_length_le (by omega)
      rw [e1] at hm
      clear e1 HU
      cases p
      · have hz3 := hz2 rfl
        obtain ⟨m1, rfl⟩ := (dUnhide hm).2 rfl
        have eP := dHide (putA_none m1)
        clear m1 hm
        go_wp2_with (at_builtin; refine appN _ rfl _ _ rfl w.heap.size _ zs rfl (hown.alloc _) ⟨wr.heap.size, 0, none⟩ 1 1 [y] rfl rfl (one_int _ _ _) ?c3 ?c4 ?_)
        case c3 => (try simp only [List.length_append, List.length_cons, List.length_nil]); omega
        case c4 => have := hb.size; simp; omega
        intro v' w2 hown' hgrow
        have hb2 : Below w.heap.size w w2 := (hb.alloc hb.size _).grown hgrow (by have := hb.size; simp; omega) (fun k hk => (hlt' k hk).1)
        have hown2 := own_lenN hown'
        rw [← dUnhide eP] at hown2
        clear hown hown' hgrow hb hlt' eP
        go_wp2
        go_ret
        exact ⟨⟨_, rfl, hown2⟩, hb2⟩
      · have eP := ((dUnhide hm).1 rfl).2
        rw [eP] at hown
        clear eP hm hz1 hz2
        go_wp2
        go_ret
        exact ⟨⟨_, rfl, hown⟩, hb⟩
end Go.Proofs.YthndkkjgjhgdnaaGreatDoor
namespace Go.Proofs.YthndkkjgjhgdnaaGreatDoor
open Go.ChangeShapes Go.WideShapes Go.ChangeAt Go.RowKit
set_option linter.unusedVariables false
set_option linter.unusedSimpArgs false

/-- The list with y in its place. -/
def putL (y : Int) (xs : List Int) : List Int := if y ∈ xs then xs else putA y xs
theorem putL_len (y : Int) (xs : List Int) : (putL y xs).length ≤ xs.length + 1 := by
  unfold putL
  split
  · omega
  · rw [putA_len]; omega
theorem mem_putL {y x : Int} {xs : List Int} : x ∈ putL y xs ↔ x = y ∨ x ∈ xs := by
  unfold putL
  split
  · rename_i h
    constructor
    · exact .inr
    · rintro (rfl | h')
      · exact h
      · exact h'
  · exact mem_putA
theorem putL_asc {y : Int} {l : List Int} (h : l.Pairwise (· < ·)) : (putL y l).Pairwise (· < ·) := by
  unfold putL
  split
  · exact h
  · rename_i hy
    exact putA_asc h hy
set_option maxHeartbeats 1000000 in
theorem l4Put_old (v : Value) (xs : List Int) (y : Int) (w : World) (hv : Ns w v xs) (hl : xs.length ≤ 2000000) (hy : y ∈ xs) :
    Calls Tryz.prog 103 #[v, .int .i64 y] w fun e w' => (∃ u, e = .returned u ∧ w'.ownsRow w.heap.size 3 1 u xs.length (ncells xs)) ∧ Below w.heap.size w w' := by
  have CH := dHide fun W (hb : Below w.heap.size w W) => l4Has_any v xs y W (hv.below hb)
  obtain ⟨h0, a, cap, rfl, -, hu⟩ := hv
  have HU := dHide hu
  clear hu
  go_enter Tryz.func103, Tryz.ntmps103
  go_wp2_with fail
  refine (dUnhide CH _ ((Below.refl _ _).alloc (Nat.le_refl _) _)).mono ?_
  rintro e w1 ⟨hr, rfl⟩
  obtain rfl := hr.of_yes hy
  clear hr CH hy
  go_wp2
  go_loopw [5, 6, 7] (fun o q x wr => ∃ (k : Nat), x = .int .i64 (k : Int) ∧ q = .bool true ∧ k ≤ xs.length ∧ wr.ownsRow w.heap.size 3 1 o (xs.take k).length (ncells (xs.take k)) ∧ Below w.heap.size w wr) (fun _ _ x _ => xs.length - (intOf x).toNat)
  case atStart => exact ⟨0, rfl, rfl, Nat.zero_le _, World.ownsRow_made w #[] 0 (Nat.le_refl _) (by decide) (by simp), (Below.refl _ _).alloc (Nat.le_refl _) _⟩
  case round =>
    obtain ⟨k, rfl, rfl, hk, hown, hb⟩ := hrel
    have hlt' := hown.lt
    have hz : (xs.take k).length ≤ k := by rw [List.length_take]; omega
    by_cases hlt : (k : Int) < (xs.length : Int)
    · obtain ⟨b, off, rfl, hc⟩ : ∃ b off, a = some ⟨b, off, none⟩ ∧ ∀ i (h : i < xs.length), w.cell? ⟨b, off + i, none⟩ = some (.int .i64 xs[i]) := orN_of_lt (dUnhide HU) (k := k) (by omega)
      have hkl : k < xs.length := by omega
      have c1 : wr.cell? ⟨b, off + k, none⟩ = some (.int .i64 xs[k]) := (hb.cell (p := ⟨b, off + k, none⟩) (dCell_lt (hc k hkl))).trans (hc k hkl)
      have hT := dHide (List.take_succ_eq_append_getElem hkl)
      generalize xs[k] = x at *
      clear hc
      obtain ⟨zs, hzs⟩ : ∃ zs, zs = xs.take k := ⟨_, rfl⟩
      rw [← hzs] at hown hT hz
      have HZ := dHide hzs
      clear hzs
      go_wp2_with (at_builtin; refine appN _ rfl _ _ rfl w.heap.size _ zs rfl (hown.alloc _) ⟨wr.heap.size, 0, none⟩ 1 1 [x] rfl rfl (one_int _ _ _) ?c3 ?c4 ?_)
      case c3 => (try simp only [List.length_append, List.length_cons, List.length_nil]); omega
      case c4 => have := hb.size; simp; omega
      intro v' w2 hown' hgrow
      have hb2 : Below w.heap.size w w2 := (hb.alloc hb.size _).grown hgrow (by have := hb.size; simp; omega) (fun k hk => (hlt' k hk).1)
      have hown2 := own_lenN hown'
      rw [← dUnhide hT] at hown2
      clear hown hown' hgrow hb hlt' c1
      go_wp2
      go_roundw
      case rel => exact ⟨k + 1, by go_num, rfl, by omega, hown2, hb2⟩
      case measure => simp [intOf]; omega
    · have e1 : xs.take k = xs := List.take_of_length_le (by omega)
      rw [e1] at hown
      clear e1 HU
      go_wp2
      go_ret
      exact ⟨⟨_, rfl, hown⟩, hb⟩
theorem l4Put_all (v : Value) (xs : List Int) (y : Int) (w : World) (hv : Ns w v xs) (hl : xs.length ≤ 2000000) :
    Calls Tryz.prog 103 #[v, .int .i64 y] w fun e w' => (∃ u, e = .returned u ∧ OwnN w' w.heap.size u (putL y xs)) ∧ Below w.heap.size w w' := by
  by_cases hy : y ∈ xs
  · rw [show putL y xs = xs from if_pos hy]
    exact (l4Put_old v xs y w hv hl hy).mono fun e w' ⟨⟨u, h1, h2⟩, h3⟩ => ⟨⟨u, h1, ownN_of_row h2⟩, h3⟩
  · rw [show putL y xs = putA y xs from if_neg hy]
    exact (l4Put_new v xs y w hv hl hy).mono fun e w' ⟨⟨u, h1, h2⟩, h3⟩ => ⟨⟨u, h1, ownN_of_row h2⟩, h3⟩
end Go.Proofs.YthndkkjgjhgdnaaGreatDoor
