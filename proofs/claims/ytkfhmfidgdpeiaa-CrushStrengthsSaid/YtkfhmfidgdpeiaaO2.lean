/- CrushStrengths's own body. -/
import Derived.Test.YtkfhmfidgdpeiaaO1
import Derived.Test.YtkfhmfidgdpeiaaI33
import Derived.Test.YtkfhmfidgdpeiaaQa
namespace Go.Proofs.Ytkfhmfidgdpeiaa
set_option linter.unusedVariables false
set_option linter.unusedSimpArgs false
open Go.RowKit

set_option maxRecDepth 100000 in
set_option maxHeartbeats 4000000 in
theorem crushStrengths_any (el eh cl ch ar ru : Int) (w : World) :
    Calls Try.prog 5 #[.agg #[.int .i64 el, .int .i64 eh, .int .i64 cl, .int .i64 ch, .int .i64 ar, .int .i64 ru]] w fun e w' => e = .returned (.bool true) ∧ Gr w w' := by
  have gg := Gr.al w (.cells #[.int .i64 el, .int .i64 eh, .int .i64 cl, .int .i64 ch, .int .i64 ar, .int .i64 ru] 47)
  have hb := Box.new w [.int .i64 el, .int .i64 eh, .int .i64 cl, .int .i64 ch, .int .i64 ar, .int .i64 ru] 47 w.heap.size rfl
  go_enter Try.func5, Try.ntmps5
  go_upto_region 1 with fail
  refine wp_abs (fun U => Gr w U ∧ Box U w.heap.size [.int .i64 el, .int .i64 eh, .int .i64 cl, .int .i64 ch, .int .i64 ar, .int .i64 ru]) ⟨gg, hb⟩ ?_
  clear gg hb
  rintro U ⟨gg, hb⟩
  obtain ⟨q0, q1, q2, q3, q4, q5⟩ := hb.c6'
  cases hB : boxOk el eh cl ch ar ru with
  | false =>
    go_upto_region 2 with (go_at_call 29; refine (crushStrength_err el eh cl ch ar ru hB _).mono ?_; rintro e w1 ⟨rfl, g1⟩)
    have gX := g1.tr (Gr.al w1 (.cells #[.int .i64 0, .int .i64 0] 45))
    obtain ⟨D, hD⟩ : ∃ D, D = w1.heap.size := ⟨_, rfl⟩
    have hs := Box.new w1 [.int .i64 0, .int .i64 0] 45 D hD
    rw [← hD]
    refine wp_abs (fun X => Gr w X ∧ Box X w.heap.size [.int .i64 el, .int .i64 eh, .int .i64 cl, .int .i64 ch, .int .i64 ar, .int .i64 ru] ∧ Box X D [.int .i64 0, .int .i64 0]) ⟨gg.tr gX, hb.keep gX, hs⟩ ?_
    clear q0 q1 q2 q3 q4 q5 gX hs hD gg hb g1
    rintro X ⟨gg, hb, hs⟩
    obtain ⟨q0, q1, q2, q3, q4, q5⟩ := hb.c6'
    go_upto_region 3 with (go_at_call 30; refine (refBox_any el eh cl ch ar ru false hB _).mono ?_; rintro e w2 ⟨rfl, g2⟩)
    obtain ⟨s0, s1⟩ := (hs.keep g2).c2
    go_wp2_with (go_at_call 16; refine (known_any _).mono ?_; rintro e w3 ⟨rfl, g3⟩)
    go_ret
    exact ⟨rfl, gg.tr (g2.tr g3)⟩
  | true =>
    obtain ⟨⟨x0, x1, x2⟩, ⟨x3, x4, x5⟩, ⟨x6, x7⟩, x8, x9⟩ := boxOk_iff hB
    obtain ⟨sl, hsl⟩ : ∃ s, strongB ar ru el cl = s := ⟨_, rfl⟩
    obtain ⟨sh, hsh⟩ : ∃ s, strongB ar ru eh ch = s := ⟨_, rfl⟩
    have HS := Lib.hid (fun W => (show Calls Try.prog 29 #[.agg #[.int .i64 el, .int .i64 eh, .int .i64 cl, .int .i64 ch, .int .i64 ar, .int .i64 ru]] W fun e w' => e = .returned (.tuple #[.agg #[.int .i64 sl, .int .i64 sh], .int .i64 0]) ∧ Gr W w' by rw [← hsl, ← hsh]; exact crushStrength_ok el eh cl ch ar ru hB W))
    have H1 := Lib.hid (fun W => (show Calls Try.prog 32 #[.int .i64 el, .int .i64 cl, .int .i64 ar, .int .i64 ru] W fun e w' => e = .returned (.int .i64 sl) ∧ Gr W w' by rw [← hsl]; exact refStrength_any el cl ar ru (by omega) (by omega) (by omega) (by omega) (by omega) (by omega) (by omega) (by omega) W))
    have H2 := Lib.hid (fun W => (show Calls Try.prog 32 #[.int .i64 eh, .int .i64 ch, .int .i64 ar, .int .i64 ru] W fun e w' => e = .returned (.int .i64 sh) ∧ Gr W w' by rw [← hsh]; exact refStrength_any eh ch ar ru (by omega) (by omega) (by omega) (by omega) (by omega) (by omega) (by omega) (by omega) W))
    clear hsl hsh x0 x1 x2 x3 x4 x5 x6 x7 x8 x9
    go_upto_region 2 with (go_at_call 29; refine (HS.out _).mono ?_; rintro e w1 ⟨rfl, g1⟩)
    have gX := g1.tr (Gr.al w1 (.cells #[.int .i64 sl, .int .i64 sh] 45))
    obtain ⟨D, hD⟩ : ∃ D, D = w1.heap.size := ⟨_, rfl⟩
    have hs := Box.new w1 [.int .i64 sl, .int .i64 sh] 45 D hD
    rw [← hD]
    refine wp_abs (fun X => Gr w X ∧ Box X w.heap.size [.int .i64 el, .int .i64 eh, .int .i64 cl, .int .i64 ch, .int .i64 ar, .int .i64 ru] ∧ Box X D [.int .i64 sl, .int .i64 sh]) ⟨gg.tr gX, hb.keep gX, hs⟩ ?_
    clear q0 q1 q2 q3 q4 q5 gX hs hD gg hb g1
    rintro X ⟨gg, hb, hs⟩
    obtain ⟨q0, q1, q2, q3, q4, q5⟩ := hb.c6'
    go_upto_region 4 with (go_at_call 30; refine (refBox_any el eh cl ch ar ru true hB _).mono ?_; rintro e w2 ⟨rfl, g2⟩)
    obtain ⟨r0, r1, r2, r3, r4, r5⟩ := (hb.keep g2).c6'
    obtain ⟨s0, s1⟩ := (hs.keep g2).c2
    clear q0 q1 q2 q3 q4 q5
    have y0 := From.keep r0
    have y1 := From.keep r1
    have y2 := From.keep r2
    have y3 := From.keep r3
    have y4 := From.keep r4
    have y5 := From.keep r5
    have y6 := From.keep s0
    have y7 := From.keep s1
    clear r0 r1 r2 r3 r4 r5 s0 s1 hb hs HS
    refine wp_region_gr (by kernel_rfl) (by kernel_rfl) ?_
    repeat (go_big_quiet_step (first
      | (go_at_call 32; (with_reducible exact Calls.gr (H1.out _)))
      | (go_at_call 32; (with_reducible exact Calls.gr (H2.out _)))
      | (go_at_call 31; (with_reducible exact Calls.gr (armSpan_any sl sh _)))
      | (go_at_call 16; (with_reducible exact Calls.gr (known_any _)))))
    refine wpQuiet_nil ?_
    rintro _ ⟨u, rfl⟩
    go_wp2
    go_ret
    exact ⟨rfl, gg.tr (g2.tr u.property)⟩

end Go.Proofs.Ytkfhmfidgdpeiaa
