/- A frame of an index goes up: the document's own. -/
import Derived.Test.YtmkehailohgebaaDoorTeClear
import Derived.Test.YtmkehailohgebaaDoorBks
namespace Go.Proofs.YtmkehailohgebaaDoor
open Go.RowKit Go.Lib Pt Opn

/-- The way up, number by number. -/
structure UpsX (f : Ds) (T N : Nat) (U : Nat → Nat) (CL : Nat → Nat → Bool) (G : Nat → Nat → Nat → Ds) : Prop where
  zero : ∀ h i, G 0 h i = if f.kind = 4 then { f with h := h, i := i, pc := 24 } else { f with h := h, i := i, pc := 25 }
  succ : ∀ m h i, G (m + 1) h i = if f.p / N ^ (h + 1) < U (h + 1) then { f with h := h + 1, i := f.p / N ^ (h + 1), pc := 9 } else if CL (h + 1) (f.p / N ^ (h + 1)) = true then { f with h := h + 1, i := f.p / N ^ (h + 1), pc := 12 } else G m (h + 1) (f.p / N ^ (h + 1))
theorem upsX {c : Cf} {C N K : Nat} (s : SzX c C N K) (f : Ds) : UpsX f (topX c) N (fun h => upX c f.n h) (fun h i => clearsX c { f with h := h, i := i }) (fun m h i => goUp c m { f with h := h, i := i }) := by
  constructor
  · intro h i
    rfl
  · intro m h i
    simp only [goUp, s.node, Int.toNat_natCast]

set_option maxRecDepth 100000 in
set_option maxHeartbeats 16000000 in
theorem rClimbX_any {c : Cf} {C N K : Nat} (s : SzX c C N K) (f : Ds) (hn : f.n ≤ C) (hh : f.h ≤ topX c) (hp : f.p < 256) (w : World) : Calls Tryd.prog 80 #[cfv c, frv f] w (Ret (frv (climbX c f)) w) := by
  have c2 := s.c2
  have t4 := topX_le c
  have hN1 := s.n1
  have HT := Lib.hid (fun W => rTopX_any s W)
  have HU := Lib.hid (fun h (hh : h ≤ 4) W => rUpX_any s f.n h (by omega) hh W)
  have HC := Lib.hid (fun h i (hh : h ≤ 4) W => rClearsX_any s { f with h := h, i := i } hn hh W)
  have hG := upsX s f
  rw [show climbX c f = (fun m h i => goUp c m { f with h := h, i := i }) (topX c - f.h) f.h f.i from rfl]
  obtain ⟨U, hU⟩ : ∃ U : Nat → Nat, (fun h => upX c f.n h) = U := ⟨_, rfl⟩
  obtain ⟨CL, hCL⟩ : ∃ CL : Nat → Nat → Bool, (fun h i => clearsX c { f with h := h, i := i }) = CL := ⟨_, rfl⟩
  obtain ⟨G, hGG⟩ : ∃ G : Nat → Nat → Nat → Ds, (fun m h i => goUp c m { f with h := h, i := i }) = G := ⟨_, rfl⟩
  have hU' : ∀ h, upX c f.n h = U h := fun h => congrFun hU h
  have hCL' : ∀ h i, clearsX c { f with h := h, i := i } = CL h i := fun h i => congrFun (congrFun hCL h) i
  rw [hU, hCL, hGG] at hG
  rw [hGG]
  simp only [hU'] at HU
  simp only [hCL'] at HC
  clear hU hCL hGG hU' hCL'
  obtain ⟨X, hX⟩ : ∃ X, G (topX c - f.h) f.h f.i = X := ⟨_, rfl⟩
  rw [hX]
  have HG := Lib.hid hG
  have HX := Lib.hid hX
  clear hG hX
  generalize topX c = T at *
  unfold cfv frv at *
  rw [s.cap, s.node] at *
  clear s
  obtain ⟨t, k, seq, kind, a, b, pc, i, j, n, p, h, x, y⟩ := f
  simp only at hn hh hp HC HU HG HX ⊢
  go_enter Tryd.func80, Tryd.ntmps80
  go_upto_region 1 with fail
  refine enter3 fun W hb g0 g1 g2 q0 q1 q2 => ?_
  have HW := Lib.hid (And.intro hb (And.intro g0 (And.intro g1 g2)))
  clear hb g0 g1 g2
  go_loopg [5, 6] (T - h) (fun g i5 i6 wr => ∃ h' i' : Nat, h' ≤ T ∧ g = T - h' ∧ Hid (G (T - h') h' i' = X) ∧ Hid (Below w.heap.size w wr ∧ wr.heap[w.heap.size]? = some (.cells #[.int .u8 c.obj, .int .i64 c.inst, .int .i64 c.thr, .int .u8 c.kind, .int .i64 c.str, .int .i64 c.bits, .int .i64 C, .int .i64 N, .int .i64 c.bat, .int .i64 c.chunk, .int .u64 c.lim, .int .u64 c.most] 30 (0, 0)) ∧ wr.heap[w.heap.size + 1]? = some (.cells #[.int .u8 (kind : Nat), .int .u32 (a : Nat), .int .u32 (b : Nat), .int .u8 (pc : Nat), .int .u8 (i' : Nat), .int .u8 (j : Nat), .int .u8 (n : Nat), .int .u8 (p : Nat), .int .u8 (h' : Nat), .int .u32 (x : Nat), .int .u32 (y : Nat)] 32 (0, 0)) ∧ wr.heap[w.heap.size + 1 + 1]? = some (.cells #[.int .u8 0, .int .u32 0, .int .u32 0, .int .u8 0, .int .u8 0, .int .u8 0, .int .u8 0, .int .u8 0, .int .u8 0, .int .u32 0, .int .u32 0] 32 (0, 0))))
  case atStart => exact ⟨h, i, hh, rfl, HX, HW⟩
  case round =>
    clear HW HX q0 q1 q2 hh
    obtain ⟨h', i', hh', rfl, HX, HR⟩ := hrel
    obtain ⟨hb, g0, g1, g2⟩ := HR.out
    have q0 := (Array.getElem?_eq_some_iff.1 g0).1
    have q1 := (Array.getElem?_eq_some_iff.1 g1).1
    have q2 := (Array.getElem?_eq_some_iff.1 g2).1
    obtain ⟨r0, r1, r2, r3, r4, r5, r6, r7, r8, r9, r10, r11⟩ := cl12 g0
    obtain ⟨k0, k1, k2, k3, k4, k5, k6, k7, k8, k9, k10⟩ := cl11 g1
    go_wp2_with fail
    refine wp_region_quiet_reads (by kernel_rfl) (by kernel_rfl) fun HRD => ?_
    repeat (go_big_quiet_step (first | with_reducible exact Calls.regrown_of (HT.out _)))
    refine wpQuiet_nil ?_
    intro W3 hw'
    obtain ⟨⟨dq, osq⟩, hw''⟩ := hw'
    have hb3 : Below wr.heap.size wr W3 := by rw [hw'']; exact below_regrown _ dq osq
    clear hw'' HRD dq osq r0 r1 r2 r3 r4 r5 r6 r7 r8 r9 r10 r11 k0 k1 k2 k3 k4 k5 k6 k7 k8 k9 k10
    replace g0 := blk_below g0 hb3
    replace g1 := blk_below g1 hb3
    replace g2 := blk_below g2 hb3
    have HB := Lib.hid (below_then hb hb3)
    clear HR hb hb3 q0 q1 q2
    by_cases hlt : h' < T
    · have l1 : (h' : Int) < (T : Int) := by omega
      have w1 : IntKind.u8.wrap ((h' : Int) + 1) = (h' : Int) + 1 := by rw [IntKind.wrap_u8]; omega
      obtain ⟨r0, r1, r2, r3, r4, r5, r6, r7, r8, r9, r10, r11⟩ := cl12 g0
      obtain ⟨⟨k0, y0, k1, y1, k2, y2, k3, y3, k4, y4, k5, y5, k6, y6, k7, y7, k8, y8, k9, y9, k10, y10⟩⟩ := And.intro (cells11 g1) True.intro
      have HX2 := HX.out
      rw [show T - h' = T - (h' + 1) + 1 from by omega, HG.out.succ] at HX2
      have HX3 := Lib.hid HX2
      clear HX2 HX
      go_wp2_with fail
      refine entSet g1 rfl fun W4 G1 o4 => ?_
      replace g0 := only_blk o4 g0 (by omega)
      replace g2 := only_blk o4 g2 (by omega)
      have hB4 : Below w.heap.size w W4 := Only.then_below (Nat.le_refl _) HB.out o4 (fun k hk => by omega)
      have HB4 := Lib.hid hB4
      clear hB4 HB o4 g1 w1 l1
      clear k0 y0 k1 y1 k2 y2 k3 y3 k4 y4 k5 y5 k6 y6 k7 y7 k8 y8 k9 y9 k10 y10 r0 r1 r2 r3 r4 r5 r6 r7 r8 r9 r10 r11
      obtain ⟨r0, r1, r2, r3, r4, r5, r6, r7, r8, r9, r10, r11⟩ := cl12 g0
      obtain ⟨k0, y0, k1, y1, k2, y2, k3, y3, k4, y4, k5, y5, k6, y6, k7, y7, k8, y8, k9, y9, k10, y10⟩ := cells11 G1
      go_loopg [5, 6] (h' + 1) (fun g iv kv wa => wa = W4 ∧ ∃ m : Nat, m ≤ h' + 1 ∧ g = h' + 1 - m ∧ kv = .int .i64 m ∧ iv = .int .i64 (p / N ^ m : Nat))
      case atStart => exact ⟨rfl, 0, by omega, rfl, rfl, by simp⟩
      case round =>
        obtain ⟨rfl, m, hm, rfl, rfl, rfl⟩ := hrel
        have hlt2 : p / N ^ m < 256 := Nat.lt_of_le_of_lt (Nat.div_le_self _ _) hp
        by_cases hmh : m < h' + 1
        · have hdiv : p / N ^ (m + 1) = p / N ^ m / N := by rw [Nat.pow_succ, Nat.div_div_eq_div_mul]
          generalize p / N ^ m = q at *
          have hw : wrap64 ((q : Int) / (N : Int)) = ((q / N : Nat) : Int) := by
            have h1 := Nat.div_le_self q N
            rw [show (q : Int) / (N : Int) = ((q / N : Nat) : Int) from by push_cast; rfl]
            generalize q / N = z at *
            simp only [wrap64]
            omega
          have hN0 : ((N : Nat) : Int) ≠ 0 := by omega
          go_wp2
          go_roundg (h' + 1 - (m + 1))
          case measure => omega
          case rel => exact ⟨rfl, m + 1, by omega, rfl, by go_num, by rw [hdiv]; exact i64_eq hw⟩
        · obtain rfl : m = h' + 1 := by omega
          generalize p / N ^ (h' + 1) = q at *
          have HUh := Lib.hid (fun W => HU.out (h' + 1) (by omega) W)
          have HCh := Lib.hid (fun W => HC.out (h' + 1) q (by omega) W)
          rw [show (((h' + 1 : Nat)) : Int) = (h' : Int) + 1 from by push_cast; rfl] at HUh HCh
          have wq : IntKind.u8.wrap (q : Int) = (q : Int) := by rw [IntKind.wrap_u8]; omega
          go_upto_region 9 with fail
          refine entSet G1 rfl fun W5 G5 o5 => ?_
          replace g0 := only_blk o5 g0 (by omega)
          replace g2 := only_blk o5 g2 (by omega)
          have hB5 : Below w.heap.size w W5 := Only.then_below (Nat.le_refl _) HB4.out o5 (fun k hk => by omega)
          have HB5 := Lib.hid hB5
          clear hB5 o5 G1 HB4 wq
          clear k0 y0 k1 y1 k2 y2 k3 y3 k4 y4 k5 y5 k6 y6 k7 y7 k8 y8 k9 y9 k10 y10 r0 r1 r2 r3 r4 r5 r6 r7 r8 r9 r10 r11
          obtain ⟨r0, r1, r2, r3, r4, r5, r6, r7, r8, r9, r10, r11⟩ := cl12 g0
          obtain ⟨k0, y0, k1, y1, k2, y2, k3, y3, k4, y4, k5, y5, k6, y6, k7, y7, k8, y8, k9, y9, k10, y10⟩ := cells11 G5
          by_cases c1 : q < U (h' + 1)
          · have EX := Lib.hid ((if_pos c1).symm.trans HX3.out)
            have c1' : (q : Int) < ((U (h' + 1) : Nat) : Int) := by omega
            generalize U (h' + 1) = Uh at *
            clear c1
            go_wp2_with (first | (go_at_call 75; refine (HUh.out _).mono ?_; rintro e w6 ⟨rfl, hb6⟩; have HB6 := Lib.hid (below_then HB5.out hb6); replace g0 := blk_below g0 hb6; replace g2 := blk_below g2 hb6; replace G5 := blk_below G5 hb6; clear HB5 hb6 k0 y0 k1 y1 k2 y2 k3 y3 k4 y4 k5 y5 k6 y6 k7 y7 k8 y8 k9 y9 k10 y10 r0 r1 r2 r3 r4 r5 r6 r7 r8 r9 r10 r11; obtain ⟨r0, r1, r2, r3, r4, r5, r6, r7, r8, r9, r10, r11⟩ := cl12 g0; obtain ⟨k0, y0, k1, y1, k2, y2, k3, y3, k4, y4, k5, y5, k6, y6, k7, y7, k8, y8, k9, y9, k10, y10⟩ := cells11 G5) | (go_at_call 77; refine (rAtI _ _ _ _ _ _ _ _ _ _ _ _ _).mono ?_; rintro e w7 ⟨rfl, hb7⟩; have HB7 := Lib.hid (below_then HB6.out hb7); have Gz := blk_below g2 hb7; clear k0 y0 k1 y1 k2 y2 k3 y3 k4 y4 k5 y5 k6 y6 k7 y7 k8 y8 k9 y9 k10 y10 r0 r1 r2 r3 r4 r5 r6 r7 r8 r9 r10 r11; obtain ⟨u0, v0, u1, v1, u2, v2, u3, v3, u4, v4, u5, v5, u6, v6, u7, v7, u8, v8, u9, v9, u10, v10⟩ := cells11 Gz; clear hb7 Gz))
            refine bodyPost_ret ?_ rfl ⟨rfl, ?_⟩
            · rw [← EX.out]
              simp [results, Tryd.results80, go_sem, u0, u1, u2, u3, u4, u5, u6, u7, u8, u9, u10]
            · (repeat' (first | with_reducible exact HB7.out | (with_reducible refine Below.setCell ?_ ?_ _))) <;> (simp; try omega)
          · have HX4 := Lib.hid ((if_neg c1).symm.trans HX3.out)
            have c1' : ¬ (q : Int) < ((U (h' + 1) : Nat) : Int) := by omega
            generalize U (h' + 1) = Uh at *
            clear c1
            cases hcl : CL (h' + 1) q with
            | true =>
              have EX := Lib.hid ((if_pos hcl).symm.trans HX4.out)
              rw [hcl] at HCh
              clear hcl
              go_wp2_with (first | (go_at_call 75; refine (HUh.out _).mono ?_; rintro e w6 ⟨rfl, hb6⟩; have HB6 := Lib.hid (below_then HB5.out hb6); replace g0 := blk_below g0 hb6; replace g2 := blk_below g2 hb6; replace G5 := blk_below G5 hb6; clear HB5 hb6 k0 y0 k1 y1 k2 y2 k3 y3 k4 y4 k5 y5 k6 y6 k7 y7 k8 y8 k9 y9 k10 y10 r0 r1 r2 r3 r4 r5 r6 r7 r8 r9 r10 r11; obtain ⟨r0, r1, r2, r3, r4, r5, r6, r7, r8, r9, r10, r11⟩ := cl12 g0; obtain ⟨k0, y0, k1, y1, k2, y2, k3, y3, k4, y4, k5, y5, k6, y6, k7, y7, k8, y8, k9, y9, k10, y10⟩ := cells11 G5) | (go_at_call 81; refine (HCh.out _).mono ?_; rintro e w7 ⟨rfl, hb7⟩; have HB7 := Lib.hid (below_then HB6.out hb7); replace g0 := blk_below g0 hb7; replace g2 := blk_below g2 hb7; replace G5 := blk_below G5 hb7; clear HB6 hb7 k0 y0 k1 y1 k2 y2 k3 y3 k4 y4 k5 y5 k6 y6 k7 y7 k8 y8 k9 y9 k10 y10 r0 r1 r2 r3 r4 r5 r6 r7 r8 r9 r10 r11; obtain ⟨r0, r1, r2, r3, r4, r5, r6, r7, r8, r9, r10, r11⟩ := cl12 g0; obtain ⟨k0, y0, k1, y1, k2, y2, k3, y3, k4, y4, k5, y5, k6, y6, k7, y7, k8, y8, k9, y9, k10, y10⟩ := cells11 G5) | (go_at_call 77; refine (rAtI _ _ _ _ _ _ _ _ _ _ _ _ _).mono ?_; rintro e w8 ⟨rfl, hb8⟩; have HB8 := Lib.hid (below_then HB7.out hb8); have Gz := blk_below g2 hb8; clear k0 y0 k1 y1 k2 y2 k3 y3 k4 y4 k5 y5 k6 y6 k7 y7 k8 y8 k9 y9 k10 y10 r0 r1 r2 r3 r4 r5 r6 r7 r8 r9 r10 r11; obtain ⟨u0, v0, u1, v1, u2, v2, u3, v3, u4, v4, u5, v5, u6, v6, u7, v7, u8, v8, u9, v9, u10, v10⟩ := cells11 Gz; clear hb8 Gz))
              refine bodyPost_ret ?_ rfl ⟨rfl, ?_⟩
              · rw [← EX.out]
                simp [results, Tryd.results80, go_sem, u0, u1, u2, u3, u4, u5, u6, u7, u8, u9, u10]
              · (repeat' (first | with_reducible exact HB8.out | (with_reducible refine Below.setCell ?_ ?_ _))) <;> (simp; try omega)
            | false =>
              have EX := Lib.hid ((if_neg (by rw [hcl]; decide)).symm.trans HX4.out)
              rw [hcl] at HCh
              clear hcl
              go_wp2_with (first | (go_at_call 75; refine (HUh.out _).mono ?_; rintro e w6 ⟨rfl, hb6⟩; have HB6 := Lib.hid (below_then HB5.out hb6); replace g0 := blk_below g0 hb6; replace g2 := blk_below g2 hb6; replace G5 := blk_below G5 hb6; clear HB5 hb6 k0 y0 k1 y1 k2 y2 k3 y3 k4 y4 k5 y5 k6 y6 k7 y7 k8 y8 k9 y9 k10 y10 r0 r1 r2 r3 r4 r5 r6 r7 r8 r9 r10 r11; obtain ⟨r0, r1, r2, r3, r4, r5, r6, r7, r8, r9, r10, r11⟩ := cl12 g0; obtain ⟨k0, y0, k1, y1, k2, y2, k3, y3, k4, y4, k5, y5, k6, y6, k7, y7, k8, y8, k9, y9, k10, y10⟩ := cells11 G5) | (go_at_call 81; refine (HCh.out _).mono ?_; rintro e w7 ⟨rfl, hb7⟩; have HB7 := Lib.hid (below_then HB6.out hb7); replace g0 := blk_below g0 hb7; replace g2 := blk_below g2 hb7; replace G5 := blk_below G5 hb7; clear HB6 hb7 k0 y0 k1 y1 k2 y2 k3 y3 k4 y4 k5 y5 k6 y6 k7 y7 k8 y8 k9 y9 k10 y10 r0 r1 r2 r3 r4 r5 r6 r7 r8 r9 r10 r11; obtain ⟨r0, r1, r2, r3, r4, r5, r6, r7, r8, r9, r10, r11⟩ := cl12 g0; obtain ⟨k0, y0, k1, y1, k2, y2, k3, y3, k4, y4, k5, y5, k6, y6, k7, y7, k8, y8, k9, y9, k10, y10⟩ := cells11 G5))
              go_roundg (T - (h' + 1))
              case measure => omega
              case rel => exact ⟨h' + 1, q, by omega, rfl, EX, Lib.hid ⟨HB7.out, g0, G5, g2⟩⟩
    · obtain rfl : h' = T := by omega
      have HX2 := HX.out
      rw [show h' - h' = 0 from by omega, HG.out.zero] at HX2
      have HX3 := Lib.hid HX2
      clear HX2 HX
      obtain ⟨r0, r1, r2, r3, r4, r5, r6, r7, r8, r9, r10, r11⟩ := cl12 g0
      obtain ⟨k0, y0, k1, y1, k2, y2, k3, y3, k4, y4, k5, y5, k6, y6, k7, y7, k8, y8, k9, y9, k10, y10⟩ := cells11 g1
      by_cases c1 : kind = 4
      · have EX := Lib.hid ((if_pos c1).symm.trans HX3.out)
        have c2' : ((kind : Int) == 4) = true := by simp; omega
        clear c1
        go_wp2_with (go_at_call 77; refine (rAtI _ _ _ _ _ _ _ _ _ _ _ _ _).mono ?_; rintro e w7 ⟨rfl, hb7⟩; have HB7 := Lib.hid (below_then HB.out hb7); have Gz := blk_below g2 hb7; clear k0 y0 k1 y1 k2 y2 k3 y3 k4 y4 k5 y5 k6 y6 k7 y7 k8 y8 k9 y9 k10 y10 r0 r1 r2 r3 r4 r5 r6 r7 r8 r9 r10 r11; obtain ⟨u0, v0, u1, v1, u2, v2, u3, v3, u4, v4, u5, v5, u6, v6, u7, v7, u8, v8, u9, v9, u10, v10⟩ := cells11 Gz; clear hb7 Gz)
        refine bodyPost_ret ?_ rfl ⟨rfl, ?_⟩
        · rw [← EX.out]
          simp [results, Tryd.results80, go_sem, u0, u1, u2, u3, u4, u5, u6, u7, u8, u9, u10]
        · (repeat' (first | with_reducible exact HB7.out | (with_reducible refine Below.setCell ?_ ?_ _))) <;> (simp; try omega)
      
      · have EX := Lib.hid ((if_neg c1).symm.trans HX3.out)
        have c2' : ((kind : Int) == 4) = false := by simp; omega
        clear c1
        go_wp2_with (go_at_call 77; refine (rAtI _ _ _ _ _ _ _ _ _ _ _ _ _).mono ?_; rintro e w7 ⟨rfl, hb7⟩; have HB7 := Lib.hid (below_then HB.out hb7); have Gz := blk_below g2 hb7; clear k0 y0 k1 y1 k2 y2 k3 y3 k4 y4 k5 y5 k6 y6 k7 y7 k8 y8 k9 y9 k10 y10 r0 r1 r2 r3 r4 r5 r6 r7 r8 r9 r10 r11; obtain ⟨u0, v0, u1, v1, u2, v2, u3, v3, u4, v4, u5, v5, u6, v6, u7, v7, u8, v8, u9, v9, u10, v10⟩ := cells11 Gz; clear hb7 Gz)
        refine bodyPost_ret ?_ rfl ⟨rfl, ?_⟩
        · rw [← EX.out]
          simp [results, Tryd.results80, go_sem, u0, u1, u2, u3, u4, u5, u6, u7, u8, u9, u10]
        · (repeat' (first | with_reducible exact HB7.out | (with_reducible refine Below.setCell ?_ ?_ _))) <;> (simp; try omega)
end Go.Proofs.YtmkehailohgebaaDoor
