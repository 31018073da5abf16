/- The exact laws of chapter 5 over numbers, walked. -/
import Derived.Test.YtljekapbcphdaaaDoorEnvS
import Derived.Test.YtljekapbcphdaaaDoorBWalk
namespace Go.Proofs.YtljekapbcphdaaaDoor
open Go.RowKit

theorem xSecondOk_walk (g s : Int) (w : World) (G : Gr w) : Calls Tryd.prog 3 #[.int .i64 g, .int .i64 s] w fun e w' => e = .returned (.bool true) ∧ Below w.heap.size w w' := by
  cases h : sndB g s
  · skip
    go_enter Tryd.func3, Tryd.ntmps3
    go_wp2_with fail
    refine (ssnd_is h _).mono ?_
    rintro e w1 ⟨rfl, hb⟩
    have B1 := Lib.hid (hb)
    clear hb
    go_wp2_with fail
    refine (isnd_is h _ (G.on B1.out)).mono ?_
    rintro e w2 ⟨rfl, hb⟩
    have B2 := Lib.hid (Below.on B1.out hb)
    clear hb
    go_wp2
    go_ret
    exact ⟨rfl, B2.out⟩
  · skip
    go_enter Tryd.func3, Tryd.ntmps3
    go_wp2_with fail
    refine (ssnd_is h _).mono ?_
    rintro e w1 ⟨rfl, hb⟩
    have B1 := Lib.hid (hb)
    clear hb
    go_wp2_with fail
    refine (isnd_is h _ (G.on B1.out)).mono ?_
    rintro e w2 ⟨rfl, hb⟩
    have B2 := Lib.hid (Below.on B1.out hb)
    clear hb
    go_wp2
    go_ret
    exact ⟨rfl, B2.out⟩

theorem xEnvelopeOf_walk (g s n f : Int) (w : World) (G : Gr w) : Calls Tryd.prog 4 #[.int .i64 g, .int .i64 s, .int .i64 n, .int .i64 f] w fun e w' => e = .returned (.bool true) ∧ Below w.heap.size w w' := by
  obtain ⟨v, hv⟩ : ∃ v, envO g s n f = v := ⟨_, rfl⟩
  have hvv : (v != v) = false := by simp
  have HS := Lib.hid (fun (w' : World) => senv_any g s n f w')
  have HI := Lib.hid (fun (w' : World) (G' : Gr w') => ienv_any g s n f w' G')
  rw [hv] at HS HI
  clear hv
  go_enter Tryd.func4, Tryd.ntmps4
  go_wp2_with fail
  refine (HS.out _).mono ?_
  rintro e w1 ⟨rfl, hb⟩
  have B1 := Lib.hid (hb)
  clear hb
  go_wp2_with fail
  refine (HI.out _ (G.on B1.out)).mono ?_
  rintro e w2 ⟨rfl, hb⟩
  have B2 := Lib.hid (Below.on B1.out hb)
  clear hb
  go_wp2
  go_ret
  exact ⟨rfl, B2.out⟩

theorem xEnvelopeSum_walk (g a b t : Int) (w : World) (G : Gr w) : Calls Tryd.prog 5 #[.int .i64 g, .int .i64 a, .int .i64 b, .int .i64 t] w fun e w' => e = .returned (.bool true) ∧ Below w.heap.size w w' := by
  obtain ⟨v, hv⟩ : ∃ v, envS g a b t = v := ⟨_, rfl⟩
  have hvv : (v != v) = false := by simp
  have HS := Lib.hid (fun (w' : World) => ssum_any g a b t w')
  have HI := Lib.hid (fun (w' : World) (G' : Gr w') => isum_any g a b t w' G')
  rw [hv] at HS HI
  clear hv
  go_enter Tryd.func5, Tryd.ntmps5
  go_wp2_with fail
  refine (HS.out _).mono ?_
  rintro e w1 ⟨rfl, hb⟩
  have B1 := Lib.hid (hb)
  clear hb
  go_wp2_with fail
  refine (HI.out _ (G.on B1.out)).mono ?_
  rintro e w2 ⟨rfl, hb⟩
  have B2 := Lib.hid (Below.on B1.out hb)
  clear hb
  go_wp2
  go_ret
  exact ⟨rfl, B2.out⟩

theorem xBaseFrom_walk (g s v a x b y : Int) (w : World) (G : Gr w) : Calls Tryd.prog 6 #[.int .i64 g, .int .i64 s, .int .i64 v, .int .i64 a, .int .i64 x, .int .i64 b, .int .i64 y] w fun e w' => e = .returned (.bool true) ∧ Below w.heap.size w w' := by
  by_cases hx : envK g s v a x = true ∧ envK g s v b y = true ∧ a ≠ b
  · obtain ⟨h1, h2, h3⟩ := hx
    obtain ⟨z, hz⟩ : ∃ z, baseF g a x b y = z := ⟨_, rfl⟩
    have hzz : (z != z) = false := by simp
    have HS := Lib.hid (fun (w' : World) => sbase_yes g s v a x b y w' h1 h2 h3)
    have HI := Lib.hid (fun (w' : World) (G' : Gr w') => ibase_yes g s v a x b y w' G' h1 h2 h3)
    rw [hz] at HS HI
    clear hz h1 h2 h3
    go_enter Tryd.func6, Tryd.ntmps6
    go_wp2_with fail
    refine (HS.out _).mono ?_
    rintro e w1 ⟨rfl, hb⟩
    have B1 := Lib.hid (hb)
    clear hb
    go_wp2_with fail
    refine (HI.out _ (G.on B1.out)).mono ?_
    rintro e w2 ⟨rfl, hb⟩
    have B2 := Lib.hid (Below.on B1.out hb)
    clear hb
    go_wp2
    go_ret
    exact ⟨rfl, B2.out⟩
  · have HS := Lib.hid (fun (w' : World) => sbase_no g s v a x b y w' hx)
    have HI := Lib.hid (fun (w' : World) (G' : Gr w') => ibase_no g s v a x b y w' G' hx)
    clear hx
    go_enter Tryd.func6, Tryd.ntmps6
    go_wp2_with fail
    refine (HS.out _).mono ?_
    rintro e w1 ⟨rfl, hb⟩
    have B1 := Lib.hid (hb)
    clear hb
    go_wp2_with fail
    refine (HI.out _ (G.on B1.out)).mono ?_
    rintro e w2 ⟨rfl, hb⟩
    have B2 := Lib.hid (Below.on B1.out hb)
    clear hb
    go_wp2
    go_ret
    exact ⟨rfl, B2.out⟩

end Go.Proofs.YtljekapbcphdaaaDoor
