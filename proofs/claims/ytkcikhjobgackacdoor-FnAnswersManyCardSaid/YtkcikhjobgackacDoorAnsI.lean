/- impl.AnswersMany. -/
import Derived.Test.YtkcikhjobgackacDoorIdxI
import Derived.Test.YtkcikhjobgackacDoorMkI
import Derived.Test.YtkcikhjobgackacDoorSlnI
namespace Go.Proofs.YtkcikhjobgackacDoor
open Go.RowKit

def ansTo (h : Nat → Bool) : Nat → Nat
  | 0 => 0
  | k + 1 => if h k then ansTo h k + 1 else ansTo h k
theorem ansTo_yes {h : Nat → Bool} {k : Nat} (e : h k = true) : ansTo h (k + 1) = ansTo h k + 1 := by simp [ansTo, e]
theorem ansTo_no {h : Nat → Bool} {k : Nat} (e : h k = false) : ansTo h (k + 1) = ansTo h k := by simp [ansTo, e]
theorem ansTo_le (h : Nat → Bool) : ∀ k, ansTo h k ≤ k
  | 0 => Nat.le_refl _
  | k + 1 => by
    have := ansTo_le h k
    unfold ansTo; split <;> omega
theorem ansTo_congr {h h' : Nat → Bool} : ∀ {n : Nat}, (∀ k, k < n → h k = h' k) → ansTo h n = ansTo h' n
  | 0, _ => rfl
  | n + 1, e => by unfold ansTo; rw [ansTo_congr fun k hk => e k (by omega), e n (by omega)]
/-- What all lots make. -/
def mkRows (g : Int) (rows L : List (List Int)) : Nat → List (List Int)
  | 0 => []
  | k + 1 => mkRows g rows L k ++ [mkAll g rows (row L k)]
theorem mkRows_len (g : Int) (rows L : List (List Int)) : ∀ k, (mkRows g rows L k).length = k
  | 0 => rfl
  | k + 1 => by unfold mkRows; rw [List.length_append, mkRows_len g rows L k]; rfl
theorem mkRows_row (g : Int) (rows L : List (List Int)) : ∀ n k, k < n → row (mkRows g rows L n) k = mkAll g rows (row L k)
  | 0, k, h => by omega
  | n + 1, k, h => by
    unfold mkRows
    by_cases e : k < n
    · rw [row_app (by rw [mkRows_len]; exact e)]; exact mkRows_row g rows L n k e
    · obtain rfl : k = n := by omega
      have := row_last (xss := mkRows g rows L k) (ys := mkAll g rows (row L k))
      rwa [mkRows_len] at this
/-- To how many questions there are answers. -/
def ansM (g : Int) (rows : List (List Int)) (makes says : List Int) : Int :=
  if saysB g rows makes says then (ansTo (fun a => anyTo (fun k => wokB g rows makes says a (row (lots (ord g).toNat (unk rows)) k)) (lots (ord g).toNat (unk rows)).length) (ord g).toNat : Int) else -1
theorem ansM_no {g : Int} {rows : List (List Int)} {makes says : List Int} (h : saysB g rows makes says = false) : ansM g rows makes says = -1 := by simp [ansM, h]
theorem ansM_yes {g : Int} {rows : List (List Int)} {makes says : List Int} (h : saysB g rows makes says = true) :
    ansM g rows makes says = (ansTo (fun a => anyTo (fun k => sameB (row (mkRows g rows (lots (ord g).toNat (unk rows)) (lots (ord g).toNat (unk rows)).length) k) (timesAll g says makes a)) (lots (ord g).toNat (unk rows)).length) (ord g).toNat : Int) := by
  obtain ⟨hcl, _, _⟩ := saysB_true.1 h
  unfold ansM
  rw [if_pos h]
  congr 1
  refine ansTo_congr fun a ha => anyTo_congr fun k hk => ?_
  have hl : lotB g rows makes (row (lots (ord g).toNat (unk rows)) k) = true := lotB_true.2 ((ex_lots hcl).1 (row_mem hk))
  have hx : exB g (a : Int) = true := exB_true.2 ⟨⟨hcl.g0, hcl.g4⟩, by omega, by omega⟩
  rw [wok_parts, h, hl, hx, mkRows_row g rows _ _ k hk]
  rfl
theorem lots_lot {g : Int} {rows : List (List Int)} {makes : List Int} (h : Cl g rows makes) {k : Nat} (hk : k < (lots (ord g).toNat (unk rows)).length) : lotB g rows makes (row (lots (ord g).toNat (unk rows)) k) = true := lotB_true.2 ((ex_lots h).1 (row_mem hk))

set_option maxHeartbeats 6400000 in
theorem ians_any (g : Int) (rv mv sv : Value) (rows : List (List Int)) (makes says : List Int) (w : World) (G : Gr w) (h : Cw w rv mv rows makes) (hs : Ints w sv says) :
    Calls Tryd.prog 12 #[.agg #[.int .i64 g, rv, mv], sv] w fun e w' => e = .returned (.int .i64 (ansM g rows makes says)) ∧ Below w.heap.size w w' := by
  have HG := Lib.hid G
  have HH := Lib.hid h
  have HSV := Lib.hid hs
  have I0 := Lib.hid (InB.start w [.int .i64 g, rv, mv] 26)
  have p0 := I0.out.box.cell 0
  have p1 := I0.out.box.cell 1
  have p2 := I0.out.box.cell 2
  simp at p0 p1 p2
  clear h G hs
  cases hb : saysB g rows makes says
  · have HX := Lib.hid (ansM_no hb)
    go_enter Tryd.func12, Tryd.ntmps12
    go_wp2_with fail
    refine (isays_any g rv mv sv rows makes says _ (HG.out.on I0.out.fin) (HH.out.on I0.out.fin) (HSV.out.below I0.out.fin)).mono ?_
    rintro e w1 ⟨rfl, hb1⟩
    rw [hb]
    have I1 := Lib.hid (I0.out.on hb1)
    clear hb1 p0 p1 p2
    go_wp2
    go_ret
    exact ⟨by rw [HX.out]; rfl, I1.out.fin⟩
  have HX := Lib.hid (ansM_yes hb)
  obtain ⟨hcl, hsl, _⟩ := saysB_true.1 hb
  have HCL := Lib.hid hcl
  have HTL := Lib.hid (show says.length ≤ makes.length by rw [hsl, hcl.m]; exact Nat.le_refl _)
  have HT3 := Lib.hid (show says.length ≤ 1000 by have := hcl.r3; omega)
  have g0 := hcl.g0
  have g4 := hcl.g4
  have HML := Lib.hid (show ∀ es, (mkAll g rows es).length ≤ maxLen from fun es => by rw [mkAll_len]; have := hcl.r3; unfold maxLen; omega)
  obtain ⟨L, hL⟩ : ∃ L, lots (ord g).toNat (unk rows) = L := ⟨_, rfl⟩
  have HL6 := Lib.hid (lots_le hcl)
  have HL2 : Hid (∀ k, k < L.length → (row L k).length ≤ 2) := Lib.hid fun k hk => by rw [← hL] at hk ⊢; exact lots_has hcl hk
  have HLL : Hid (∀ k, k < L.length → lotB g rows makes (row L k) = true) := Lib.hid fun k hk => by rw [← hL] at hk ⊢; exact lots_lot hcl hk
  have HLT := Lib.hid (ilots_any g rv mv rows makes)
  rw [hL] at HX HL6 HLT
  obtain ⟨n, hn⟩ : ∃ n, L.length = n := ⟨_, rfl⟩
  rw [hn] at HX HL6 HL2 HLL
  have HN := Lib.hid hn
  have hmk0 := fun k => mkRows_len g rows L k
  have HMK := Lib.hid hmk0
  have HMS := Lib.hid (show ∀ k, mkRows g rows L (k + 1) = mkRows g rows L k ++ [mkAll g rows (row L k)] from fun _ => rfl)
  have HMR := Lib.hid (mkRows_row g rows L n)
  have h600 := HL6.out
  clear hL hcl hn hsl hmk0
  go_enter Tryd.func12, Tryd.ntmps12
  go_wp2_with fail
  refine (isays_any g rv mv sv rows makes says _ (HG.out.on I0.out.fin) (HH.out.on I0.out.fin) (HSV.out.below I0.out.fin)).mono ?_
  rintro e w1 ⟨rfl, hb1⟩
  rw [hb]
  have I1 := Lib.hid (I0.out.on hb1)
  clear hb1 p0 p1 p2
  have p0 := I1.out.box.cell 0
  have p1 := I1.out.box.cell 1
  have p2 := I1.out.box.cell 2
  simp at p0 p1 p2
  go_wp2_with fail
  refine (HLT.out w1 (HG.out.on I1.out.fin) (HH.out.on I1.out.fin) HCL.out).mono ?_
  rintro e w2 ⟨lv, us, rfl, ho, hb2⟩
  have I2 := Lib.hid (I1.out.on hb2)
  obtain ⟨a, c, hlv, hcell⟩ := outer_cell ho.outer
  have hul : us.length = n := by rw [ho.len]; exact HN.out
  rw [hul] at hlv hcell
  subst hlv
  have HC : Hid (∀ w', Below w2.heap.size w2 w' → ∀ k, k < n → ∃ G0, a = some ⟨G0, 0, none⟩ ∧ w'.cell? ⟨G0, k, none⟩ = some (val us k)) := Lib.hid fun w' hb k hk => by
    obtain ⟨G0, e1, e2, e3⟩ := hcell k hk
    exact ⟨G0, e1, (hb.cell (p := ⟨G0, k, none⟩) e2).trans e3⟩
  have HE : Hid (∀ w', Below w2.heap.size w2 w' → ∀ k, k < n → Ints w' (val us k) (row L k)) := Lib.hid fun w' hb k hk => Ints.of_own ((ho.on hb).rows k (by rw [hul]; exact hk)) (by have := HL2.out k hk; unfold maxLen; omega)
  clear ho hb2 p0 p1 p2 hcell hul
  go_wp2
  go_loopw [5, 18] (fun v i wr => ∃ k : Nat, k ≤ n ∧ i = .int .i64 k ∧ Hid (∃ us', OwnSS wr w2.heap.size wr.heap.size v us' (mkRows g rows L k)) ∧ Hid (Below w2.heap.size w2 wr)) (fun _ i _ => n - (intOf i).toNat)
  case atStart => exact ⟨0, by omega, rfl, Lib.hid ⟨[], OwnSS.nil _ _ _⟩, Lib.hid (Below.refl _ _)⟩
  case round =>
    obtain ⟨k, hk, rfl, hO, hB⟩ := hrel
    obtain ⟨wo, rfl⟩ : ∃ wo : World, wo = wr := ⟨_, rfl⟩
    have IO := Lib.hid (I2.out.on hB.out)
    by_cases hlt : k < n
    · obtain ⟨G0, rfl, hck⟩ := HC.out _ hB.out k hlt
      have p0 := IO.out.box.cell 0
      have p1 := IO.out.box.cell 1
      have p2 := IO.out.box.cell 2
      simp at p0 p1 p2
      obtain ⟨us', ho⟩ := hO.out
      have hul : us'.length = k := by rw [ho.len]; exact HMK.out k
      have HO := Lib.hid ho
      clear ho hO
      go_wp2_with fail
      refine (irmk_any g rv mv (val us k) rows makes (row L k) _ (HG.out.on IO.out.fin) (HH.out.on IO.out.fin) (HE.out _ hB.out k hlt)).mono ?_
      rintro e w3 ⟨v3, rfl, o3, hb3⟩
      rw [rmk_yes (HLL.out k hlt)] at o3
      obtain ⟨va, vc, hva⟩ := Own.form o3
      obtain ⟨ml, hml⟩ : ∃ ml, (mkAll g rows (row L k)).length = ml := ⟨_, rfl⟩
      rw [hml] at hva
      subst hva
      have O3 := Lib.hid o3
      have B3 := Lib.hid hb3
      have hou : w3.ownsRow w2.heap.size 24 1 u5 us'.length us' := (HO.out.onAll hb3).outer
      clear o3 hb3 p0 p1 p2 hck hml
      go_wp2_with (at_builtin; refine wpAppRow rfl _ _ rfl rfl hou (by omega) (Nat.le_trans hB.out.size B3.out.size) rfl rfl ?_)
      intro v4 w4 o4 g4 k4
      have O4 : Hid (∃ us', OwnSS w4 w2.heap.size w4.heap.size v4 us' (mkRows g rows L (k + 1))) := Lib.hid ⟨_, by rw [HMS.out]; exact HO.out.next hB.out.size B3.out O3.out (by simpa [hul] using o4) g4 k4⟩
      have B4 := Lib.hid ((Below.on hB.out B3.out).grown g4 (Nat.le_trans hB.out.size B3.out.size) (fun q hq => (HO.out.outer.lt q hq).1))
      clear o4 g4 k4 hou HO B3 O3
      go_wp2
      go_roundw
      case rel => exact ⟨k + 1, by omega, by go_num, O4, B4⟩
      case measure => simp [intOf]; omega
    · obtain rfl : k = n := by omega
      obtain ⟨us', ho⟩ := hO.out
      have HMM : Hid (∀ w', Below wo.heap.size wo w' → IntSS w' u5 (mkRows g rows L k)) := Lib.hid fun w' hb => (ho.ints (by rw [HMK.out]; unfold maxLen; omega) (fun j hj => by rw [HMK.out] at hj; rw [HMR.out j hj]; exact HML.out _)).on hb
      clear ho hO HE HC HLT HL2 HLL
      rcases g_cases g0 g4 with rfl | rfl | rfl | rfl <;> clear g0 g4
      · have p0 := IO.out.box.cell 0
        have pg := (HG.out.on IO.out.fin).c1
        simp at p0
        obtain ⟨hA, hhA⟩ : ∃ hA : Nat → Bool, (fun a : Nat => anyTo (fun j => sameB (row (mkRows 0 rows L k) j) (timesAll 0 says makes a)) k) = hA := ⟨_, rfl⟩
        have HHA : Hid (∀ a : Nat, anyTo (fun j => sameB (row (mkRows 0 rows L k) j) (timesAll 0 says makes a)) k = hA a) := Lib.hid fun a => by rw [← hhA]
        rw [hhA] at HX
        have HX' : Hid (ansM 0 rows makes says = (ansTo hA 3 : Int)) := Lib.hid HX.out
        clear hhA HX
        have hmf : ∀ (fn : Fn) (first cap : Array Value) (w : World), (Instr.makeFunc fn first cap).run Tryd.prog w = .ok (.func fn first cap) w := fun _ _ _ _ => rfl
        go_wp2
        clear p0 pg
        go_loopw [8, 34] (fun m i wr => ∃ a : Nat, a ≤ 3 ∧ i = .int .i64 a ∧ m = .int .i64 (ansTo hA a) ∧ Hid (Below wo.heap.size wo wr)) (fun _ i _ => 3 - (intOf i).toNat)
        case atStart => exact ⟨0, by omega, rfl, rfl, Lib.hid (Below.refl _ _)⟩
        case round =>
          obtain ⟨q, hq, rfl, rfl, hB2⟩ := hrel
          obtain ⟨wq, rfl⟩ : ∃ wq : World, wq = wr := ⟨_, rfl⟩
          have IQ := Lib.hid (IO.out.on hB2.out)
          have hle := ansTo_le hA q
          by_cases hql : q < 3
          · have hql1 : (q : Int) < 3 := by omega
            have p0 := IQ.out.box.cell 0
            have p1 := IQ.out.box.cell 1
            have p2 := IQ.out.box.cell 2
            simp at p0 p1 p2
            cases hv : hA q
            all_goals
              have HV := Lib.hid hv
              go_wp2_with fail
              refine (itimes_any 0 rv mv sv makes says q _ (HG.out.on IQ.out.fin) (HH.out.on IQ.out.fin).makes (HSV.out.below IQ.out.fin) HTL.out HT3.out).mono ?_
              rintro e w3 ⟨v3, rfl, o3, hb3⟩
              obtain ⟨va, vc, hva⟩ := Own.form o3
              obtain ⟨ml, hml⟩ : ∃ ml, (timesAll 0 says makes q).length = ml := ⟨_, rfl⟩
              have HMLQ := Lib.hid (show (timesAll 0 says makes q).length ≤ maxLen from by unfold timesAll; rw [timesTo_len]; have := HT3.out; unfold maxLen; omega)
              rw [hml] at hva
              subst hva
              have O3 := Lib.hid o3
              have B3 := Lib.hid (Below.on hB2.out hb3)
              clear o3 hb3 p0 p1 p2 hml hv
              go_wp2_with fail
              refine (cont_any u5 (.slice va ml vc) w3.heap.size (mkRows 0 rows L k) (timesAll 0 says makes q) _ (HMM.out _ (Below.on B3.out (below_grow _ _))) (by rw [HMK.out]; exact h600) (Box.made w3 [.slice va ml vc] 24) ((Ints.of_own O3.out HMLQ.out).below (below_grow _ _))).mono ?_
              rintro e w4 ⟨rfl, hb4⟩
              rw [HMK.out, HHA.out, HV.out]
              have B4 := Lib.hid (Below.on (Below.on B3.out (below_grow _ _)) hb4)
              clear hb4 O3
              go_wp2
              go_roundw
              case rel => exact ⟨q + 1, by omega, by go_num, by first | (rw [ansTo_yes HV.out]; go_num) | (rw [ansTo_no HV.out]), B4⟩
              case measure => simp [intOf]; omega
          · obtain rfl : q = 3 := by omega
            go_wp2
            go_ret
            exact ⟨by rw [HX'.out]; rfl, IQ.out.fin⟩
      · have p0 := IO.out.box.cell 0
        have pg := (HG.out.on IO.out.fin).c4
        simp at p0
        obtain ⟨hA, hhA⟩ : ∃ hA : Nat → Bool, (fun a : Nat => anyTo (fun j => sameB (row (mkRows 1 rows L k) j) (timesAll 1 says makes a)) k) = hA := ⟨_, rfl⟩
        have HHA : Hid (∀ a : Nat, anyTo (fun j => sameB (row (mkRows 1 rows L k) j) (timesAll 1 says makes a)) k = hA a) := Lib.hid fun a => by rw [← hhA]
        rw [hhA] at HX
        have HX' : Hid (ansM 1 rows makes says = (ansTo hA 5 : Int)) := Lib.hid HX.out
        clear hhA HX
        have hmf : ∀ (fn : Fn) (first cap : Array Value) (w : World), (Instr.makeFunc fn first cap).run Tryd.prog w = .ok (.func fn first cap) w := fun _ _ _ _ => rfl
        go_wp2
        clear p0 pg
        go_loopw [8, 34] (fun m i wr => ∃ a : Nat, a ≤ 5 ∧ i = .int .i64 a ∧ m = .int .i64 (ansTo hA a) ∧ Hid (Below wo.heap.size wo wr)) (fun _ i _ => 5 - (intOf i).toNat)
        case atStart => exact ⟨0, by omega, rfl, rfl, Lib.hid (Below.refl _ _)⟩
        case round =>
          obtain ⟨q, hq, rfl, rfl, hB2⟩ := hrel
          obtain ⟨wq, rfl⟩ : ∃ wq : World, wq = wr := ⟨_, rfl⟩
          have IQ := Lib.hid (IO.out.on hB2.out)
          have hle := ansTo_le hA q
          by_cases hql : q < 5
          · have hql1 : (q : Int) < 5 := by omega
            have p0 := IQ.out.box.cell 0
            have p1 := IQ.out.box.cell 1
            have p2 := IQ.out.box.cell 2
            simp at p0 p1 p2
            cases hv : hA q
            all_goals
              have HV := Lib.hid hv
              go_wp2_with fail
              refine (itimes_any 1 rv mv sv makes says q _ (HG.out.on IQ.out.fin) (HH.out.on IQ.out.fin).makes (HSV.out.below IQ.out.fin) HTL.out HT3.out).mono ?_
              rintro e w3 ⟨v3, rfl, o3, hb3⟩
              obtain ⟨va, vc, hva⟩ := Own.form o3
              obtain ⟨ml, hml⟩ : ∃ ml, (timesAll 1 says makes q).length = ml := ⟨_, rfl⟩
              have HMLQ := Lib.hid (show (timesAll 1 says makes q).length ≤ maxLen from by unfold timesAll; rw [timesTo_len]; have := HT3.out; unfold maxLen; omega)
              rw [hml] at hva
              subst hva
              have O3 := Lib.hid o3
              have B3 := Lib.hid (Below.on hB2.out hb3)
              clear o3 hb3 p0 p1 p2 hml hv
              go_wp2_with fail
              refine (cont_any u5 (.slice va ml vc) w3.heap.size (mkRows 1 rows L k) (timesAll 1 says makes q) _ (HMM.out _ (Below.on B3.out (below_grow _ _))) (by rw [HMK.out]; exact h600) (Box.made w3 [.slice va ml vc] 24) ((Ints.of_own O3.out HMLQ.out).below (below_grow _ _))).mono ?_
              rintro e w4 ⟨rfl, hb4⟩
              rw [HMK.out, HHA.out, HV.out]
              have B4 := Lib.hid (Below.on (Below.on B3.out (below_grow _ _)) hb4)
              clear hb4 O3
              go_wp2
              go_roundw
              case rel => exact ⟨q + 1, by omega, by go_num, by first | (rw [ansTo_yes HV.out]; go_num) | (rw [ansTo_no HV.out]), B4⟩
              case measure => simp [intOf]; omega
          · obtain rfl : q = 5 := by omega
            go_wp2
            go_ret
            exact ⟨by rw [HX'.out]; rfl, IQ.out.fin⟩
      · have p0 := IO.out.box.cell 0
        have pg := (HG.out.on IO.out.fin).c7
        simp at p0
        obtain ⟨hA, hhA⟩ : ∃ hA : Nat → Bool, (fun a : Nat => anyTo (fun j => sameB (row (mkRows 2 rows L k) j) (timesAll 2 says makes a)) k) = hA := ⟨_, rfl⟩
        have HHA : Hid (∀ a : Nat, anyTo (fun j => sameB (row (mkRows 2 rows L k) j) (timesAll 2 says makes a)) k = hA a) := Lib.hid fun a => by rw [← hhA]
        rw [hhA] at HX
        have HX' : Hid (ansM 2 rows makes says = (ansTo hA 11 : Int)) := Lib.hid HX.out
        clear hhA HX
        have hmf : ∀ (fn : Fn) (first cap : Array Value) (w : World), (Instr.makeFunc fn first cap).run Tryd.prog w = .ok (.func fn first cap) w := fun _ _ _ _ => rfl
        go_wp2
        clear p0 pg
        go_loopw [8, 34] (fun m i wr => ∃ a : Nat, a ≤ 11 ∧ i = .int .i64 a ∧ m = .int .i64 (ansTo hA a) ∧ Hid (Below wo.heap.size wo wr)) (fun _ i _ => 11 - (intOf i).toNat)
        case atStart => exact ⟨0, by omega, rfl, rfl, Lib.hid (Below.refl _ _)⟩
        case round =>
          obtain ⟨q, hq, rfl, rfl, hB2⟩ := hrel
          obtain ⟨wq, rfl⟩ : ∃ wq : World, wq = wr := ⟨_, rfl⟩
          have IQ := Lib.hid (IO.out.on hB2.out)
          have hle := ansTo_le hA q
          by_cases hql : q < 11
          · have hql1 : (q : Int) < 11 := by omega
            have p0 := IQ.out.box.cell 0
            have p1 := IQ.out.box.cell 1
            have p2 := IQ.out.box.cell 2
            simp at p0 p1 p2
            cases hv : hA q
            all_goals
              have HV := Lib.hid hv
              go_wp2_with fail
              refine (itimes_any 2 rv mv sv makes says q _ (HG.out.on IQ.out.fin) (HH.out.on IQ.out.fin).makes (HSV.out.below IQ.out.fin) HTL.out HT3.out).mono ?_
              rintro e w3 ⟨v3, rfl, o3, hb3⟩
              obtain ⟨va, vc, hva⟩ := Own.form o3
              obtain ⟨ml, hml⟩ : ∃ ml, (timesAll 2 says makes q).length = ml := ⟨_, rfl⟩
              have HMLQ := Lib.hid (show (timesAll 2 says makes q).length ≤ maxLen from by unfold timesAll; rw [timesTo_len]; have := HT3.out; unfold maxLen; omega)
              rw [hml] at hva
              subst hva
              have O3 := Lib.hid o3
              have B3 := Lib.hid (Below.on hB2.out hb3)
              clear o3 hb3 p0 p1 p2 hml hv
              go_wp2_with fail
              refine (cont_any u5 (.slice va ml vc) w3.heap.size (mkRows 2 rows L k) (timesAll 2 says makes q) _ (HMM.out _ (Below.on B3.out (below_grow _ _))) (by rw [HMK.out]; exact h600) (Box.made w3 [.slice va ml vc] 24) ((Ints.of_own O3.out HMLQ.out).below (below_grow _ _))).mono ?_
              rintro e w4 ⟨rfl, hb4⟩
              rw [HMK.out, HHA.out, HV.out]
              have B4 := Lib.hid (Below.on (Below.on B3.out (below_grow _ _)) hb4)
              clear hb4 O3
              go_wp2
              go_roundw
              case rel => exact ⟨q + 1, by omega, by go_num, by first | (rw [ansTo_yes HV.out]; go_num) | (rw [ansTo_no HV.out]), B4⟩
              case measure => simp [intOf]; omega
          · obtain rfl : q = 11 := by omega
            go_wp2
            go_ret
            exact ⟨by rw [HX'.out]; rfl, IQ.out.fin⟩
      · have p0 := IO.out.box.cell 0
        have pg := (HG.out.on IO.out.fin).c10
        simp at p0
        obtain ⟨hA, hhA⟩ : ∃ hA : Nat → Bool, (fun a : Nat => anyTo (fun j => sameB (row (mkRows 3 rows L k) j) (timesAll 3 says makes a)) k) = hA := ⟨_, rfl⟩
        have HHA : Hid (∀ a : Nat, anyTo (fun j => sameB (row (mkRows 3 rows L k) j) (timesAll 3 says makes a)) k = hA a) := Lib.hid fun a => by rw [← hhA]
        rw [hhA] at HX
        have HX' : Hid (ansM 3 rows makes says = (ansTo hA 23 : Int)) := Lib.hid HX.out
        clear hhA HX
        have hmf : ∀ (fn : Fn) (first cap : Array Value) (w : World), (Instr.makeFunc fn first cap).run Tryd.prog w = .ok (.func fn first cap) w := fun _ _ _ _ => rfl
        go_wp2
        clear p0 pg
        go_loopw [8, 34] (fun m i wr => ∃ a : Nat, a ≤ 23 ∧ i = .int .i64 a ∧ m = .int .i64 (ansTo hA a) ∧ Hid (Below wo.heap.size wo wr)) (fun _ i _ => 23 - (intOf i).toNat)
        case atStart => exact ⟨0, by omega, rfl, rfl, Lib.hid (Below.refl _ _)⟩
        case round =>
          obtain ⟨q, hq, rfl, rfl, hB2⟩ := hrel
          obtain ⟨wq, rfl⟩ : ∃ wq : World, wq = wr := ⟨_, rfl⟩
          have IQ := Lib.hid (IO.out.on hB2.out)
          have hle := ansTo_le hA q
          by_cases hql : q < 23
          · have hql1 : (q : Int) < 23 := by omega
            have p0 := IQ.out.box.cell 0
            have p1 := IQ.out.box.cell 1
            have p2 := IQ.out.box.cell 2
            simp at p0 p1 p2
            cases hv : hA q
            all_goals
              have HV := Lib.hid hv
              go_wp2_with fail
              refine (itimes_any 3 rv mv sv makes says q _ (HG.out.on IQ.out.fin) (HH.out.on IQ.out.fin).makes (HSV.out.below IQ.out.fin) HTL.out HT3.out).mono ?_
              rintro e w3 ⟨v3, rfl, o3, hb3⟩
              obtain ⟨va, vc, hva⟩ := Own.form o3
              obtain ⟨ml, hml⟩ : ∃ ml, (timesAll 3 says makes q).length = ml := ⟨_, rfl⟩
              have HMLQ := Lib.hid (show (timesAll 3 says makes q).length ≤ maxLen from by unfold timesAll; rw [timesTo_len]; have := HT3.out; unfold maxLen; omega)
              rw [hml] at hva
              subst hva
              have O3 := Lib.hid o3
              have B3 := Lib.hid (Below.on hB2.out hb3)
              clear o3 hb3 p0 p1 p2 hml hv
              go_wp2_with fail
              refine (cont_any u5 (.slice va ml vc) w3.heap.size (mkRows 3 rows L k) (timesAll 3 says makes q) _ (HMM.out _ (Below.on B3.out (below_grow _ _))) (by rw [HMK.out]; exact h600) (Box.made w3 [.slice va ml vc] 24) ((Ints.of_own O3.out HMLQ.out).below (below_grow _ _))).mono ?_
              rintro e w4 ⟨rfl, hb4⟩
              rw [HMK.out, HHA.out, HV.out]
              have B4 := Lib.hid (Below.on (Below.on B3.out (below_grow _ _)) hb4)
              clear hb4 O3
              go_wp2
              go_roundw
              case rel => exact ⟨q + 1, by omega, by go_num, by first | (rw [ansTo_yes HV.out]; go_num) | (rw [ansTo_no HV.out]), B4⟩
              case measure => simp [intOf]; omega
          · obtain rfl : q = 23 := by omega
            go_wp2
            go_ret
            exact ⟨by rw [HX'.out]; rfl, IQ.out.fin⟩
end Go.Proofs.YtkcikhjobgackacDoor
