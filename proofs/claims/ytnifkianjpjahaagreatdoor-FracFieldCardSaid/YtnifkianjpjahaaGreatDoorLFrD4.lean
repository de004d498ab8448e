/- FracField: what follows the last difference. -/
import Derived.Test.YtnifkianjpjahaaGreatDoorFrM
import Derived.Deep.DeepCutAuto
import Derived.Deep.RegionHeld3
namespace Go.Proofs.YtnifkianjpjahaaGreatDoor.Bg
open Go.ChangeShapes Go.WideShapes Go.ChangeAt Go.RowKit Go.Proofs.YtnifkianjpjahaaGreatDoor.Cell
set_option linter.unusedVariables false
set_option linter.unusedSimpArgs false
variable {N0 : Nat}
/-- what is left of a function's code behind its first n statements -/
def tailC : Nat → Code → Code
  | 0, c => c
  | n + 1, .seq _ b => tailC n b
  | _ + 1, c => c
def tailO (n : Nat) : Option Code → Code
  | some c => tailC n c
  | none => .skip
theorem np_zero {q : Int} (h : q ≠ 0) : np 0 q = 0 := by
  have h1 := np_mul (p := 0) (q := q) h
  have h2 := gq_ne (p := 0) (q := q) h
  rcases Int.mul_eq_zero.1 h1 with h3 | h3
  · exact h3
  · exact absurd h3 h2
section
variable {s s' t t' : Int} {A A' B B' : Option Addr} {n c n' c' m d m' d' : Nat} {p q x y : Int}
set_option maxRecDepth 100000 in
set_option maxHeartbeats 16000000 in
theorem fdiv_zero (w : World) (hN : N0 ≤ w.heap.size) (hp : IsBig N0 w (bigV s A n c) p) (hq : IsBig N0 w (bigV s' A' n' c') q) (hx : IsBig N0 w (bigV t B m d) x) (hy : IsBig N0 w (bigV t' B' m' d') y) (r1 : Rt p q) (r2 : Rt x y) (hx0 : x = 0) :
    Calls Tryz.prog 46 #[frV s A n c s' A' n' c', frV t B m d t' B' m' d'] w fun e w' => e = .returned (.tuple #[.agg fz4, .int .i64 15]) ∧ Below w.heap.size w w' := by
  have ht0 : (t == 0) = true := by
    have h1 := hx.sgn
    rw [hx0] at h1
    rw [h1]
    rfl
  have HR1 := Lib.hid r1
  have HR2 := Lib.hid r2
  have HP := Lib.hid hp
  have HQ := Lib.hid hq
  have HX := Lib.hid hx
  have HY := Lib.hid hy
  have HNN := Lib.hid hN
  have HB : Hid (Below w.heap.size w (((w.alloc (.cells (fC s A n c s' A' n' c') 43)).alloc (.cells (fC t B m d t' B' m' d') 43)).alloc (.cells fz4 43))) := Lib.hid (Gen.b_alloc (Gen.b_alloc (Gen.b_alloc (Below.refl _ _))))
  have RA : Hid (Row (((w.alloc (.cells (fC s A n c s' A' n' c') 43)).alloc (.cells (fC t B m d t' B' m' d') 43)).alloc (.cells fz4 43)) w.heap.size 43 (fC s A n c s' A' n' c')) := Lib.hid (((Row.new _ _ _).alloc _).alloc _)
  have RB : Hid (Row (((w.alloc (.cells (fC s A n c s' A' n' c') 43)).alloc (.cells (fC t B m d t' B' m' d') 43)).alloc (.cells fz4 43)) (w.heap.size + 1) 43 (fC t B m d t' B' m' d')) := Lib.hid (by
    have h := (Row.new (w.alloc (.cells (fC s A n c s' A' n' c') 43)) 43 (fC t B m d t' B' m' d')).alloc (.cells fz4 43)
    rwa [World.size_alloc] at h)
  have RR : Hid (Row (((w.alloc (.cells (fC s A n c s' A' n' c') 43)).alloc (.cells (fC t B m d t' B' m' d') 43)).alloc (.cells fz4 43)) (w.heap.size + 1 + 1) 43 fz4) := Lib.hid (by
    have h := Row.new (((w.alloc (.cells (fC s A n c s' A' n' c') 43)).alloc (.cells (fC t B m d t' B' m' d') 43))) 43 fz4
    rwa [World.size_alloc, World.size_alloc] at h)
  replace HP := Lib.hid (HP.out.keep HB.out)
  replace HQ := Lib.hid (HQ.out.keep HB.out)
  replace HX := Lib.hid (HX.out.keep HB.out)
  replace HY := Lib.hid (HY.out.keep HB.out)
  clear hp hq hx hy r1 r2 hN hx0
  go_enter Tryz.func46, Tryz.ntmps46
  go_wp2_with (fail)
  go_must (refine (fright_yes _ HP.out HQ.out HR1.out).mono ?_)
  rintro e W1 ⟨rfl, hb⟩
  replace RA := Lib.hid (RA.out.keep hb)
  replace RB := Lib.hid (RB.out.keep hb)
  replace RR := Lib.hid (RR.out.keep hb)
  replace HP := Lib.hid (HP.out.keep hb)
  replace HQ := Lib.hid (HQ.out.keep hb)
  replace HX := Lib.hid (HX.out.keep hb)
  replace HY := Lib.hid (HY.out.keep hb)
  replace HB := Lib.hid (Gen.over hb HB.out)
  clear hb 
  have RBc0 := RB.out.cell 0
  have RBc1 := RB.out.cell 1
  have RBc2 := RB.out.cell 2
  have RBc3 := RB.out.cell 3
  go_wp2_with (fail)
  go_must (refine (fright_yes _ HX.out HY.out HR2.out).mono ?_)
  rintro e W2 ⟨rfl, hb⟩
  replace RA := Lib.hid (RA.out.keep hb)
  replace RB := Lib.hid (RB.out.keep hb)
  replace RR := Lib.hid (RR.out.keep hb)
  replace HP := Lib.hid (HP.out.keep hb)
  replace HQ := Lib.hid (HQ.out.keep hb)
  replace HX := Lib.hid (HX.out.keep hb)
  replace HY := Lib.hid (HY.out.keep hb)
  replace HB := Lib.hid (Gen.over hb HB.out)
  clear hb RBc0 RBc1 RBc2 RBc3
  have RBc0 := RB.out.cell 0
  have RBc1 := RB.out.cell 1
  have RBc2 := RB.out.cell 2
  have RBc3 := RB.out.cell 3
  have gr0 := RR.out.frozen 0
  have gc0 := RR.out.cell 0
  have gr1 := RR.out.frozen 1
  have gc1 := RR.out.cell 1
  have gr2 := RR.out.frozen 2
  have gc2 := RR.out.cell 2
  have gr3 := RR.out.frozen 3
  have gc3 := RR.out.cell 3
  have hlt2 := RR.out.lt
  go_wp2
  refine bodyPost_ret (v := .tuple #[.agg fz4, .int .i64 15]) ?_ rfl ⟨rfl, below_set4 HB.out (by omega) _ _ _ _⟩
  simp [results, Tryz.results46, go_sem, *]
end
section
variable {p0 q0 p1 q1 p2 q2 : Int} {g_x : Nat} {s_x t_x : Int} {A_x B_x : Option Addr} {n_x c_x m_x d_x : Nat} {g_y : Nat} {s_y t_y : Int} {A_y B_y : Option Addr} {n_y c_y m_y d_y : Nat} {g_m : Nat} {s_m t_m : Int} {A_m B_m : Option Addr} {n_m c_m m_m d_m : Nat} {g_b : Nat} {s_b t_b : Int} {A_b B_b : Option Addr} {n_b c_b m_b d_b : Nat} {g_a : Nat} {s_a t_a : Int} {A_a B_a : Option Addr} {n_a c_a m_a d_a : Nat}
variable {x2 x5 x8 x10 x11 x12 x13 x15 x17 x19 x20 x21 x22 x23 x24 x25 x26 x27 x28 x29 x30 x31 x32 x33 x34 x35 x36 x37 x38 x39 x40 x41 x42 x43 x44 x45 x46 x47 x48 x49 x50 x51 x52 x53 x54 x55 x56 x57 x58 x59 x60 x61 x62 x63 x64 x65 x66 x67 x68 x69 x70 x71 x72 x73 x74 x75 x76 x77 x78 x79 x80 x81 x82 x83 x84 x85 x86 x87 x88 x89 x90 x91 x92 x93 x94 x95 x96 x97 x98 x99 x100 x101 x102 x103 x104 x105 x106 x107 x108 x109 x110 x111 x112 x113 x114 x115 x116 x117 x118 x119 x120 x121 x122 x123 x124 x125 x126 x127 x128 x129 x130 x131 x132 x133 x134 x135 x136 x137 x138 x139 x140 x141 x142 x143 x144 x145 x146 x147 x148 x149 x150 x151 x152 x153 x154 x155 x156 x157 x158 x159 x160 x161 x162 x163 x164 x165 x166 x167 x168 x169 x170 x171 x172 x173 x174 x175 x176 x177 x178 x179 x180 x181 x182 x183 x184 x185 x186 x187 x188 x189 x190 x191 x192 x193 x194 x195 x196 x197 x198 x199 x200 x201 x202 x203 x204 x205 x206 x207 x208 x209 x210 x211 x212 x213 x214 x215 x216 x217 x218 x219 x220 x221 x222 x223 x224 x225 x226 x227 x228 x229 x230 x231 x232 x233 x234 x235 x236 x237 x238 x239 x240 x241 x242 x243 x244 x245 x246 x247 x248 x249 x250 x251 x252 x253 x254 x255 x256 x257 x258 x259 x260 x261 x262 x263 x264 x265 x266 x267 x268 x269 x270 x271 x272 x273 x274 x275 x276 x277 x278 x279 x280 x281 x282 x283 x284 x285 x286 x287 x288 x289 x290 x291 x292 x293 x294 x295 x296 x297 x298 x299 x300 x301 x302 x303 x304 x305 x306 x307 x308 x309 x310 x311 x312 x313 x314 x315 x316 x317 x318 x319 x320 x321 x322 x323 x324 x325 x326 x327 x328 x329 x330 x331 x332 : Value}
set_option maxRecDepth 100000 in
set_option maxHeartbeats 16000000 in
theorem ffield_e (w W : World) (he : Env w.heap.size w W [(g_x, frV s_x A_x n_x c_x t_x B_x m_x d_x, (np ((p0 * q1 + p1 * q0) * q1 - p1 * (q0 * q1)) ((q0 * q1) * q1)), (nq ((p0 * q1 + p1 * q0) * q1 - p1 * (q0 * q1)) ((q0 * q1) * q1))), (g_y, frV s_y A_y n_y c_y t_y B_y m_y d_y, (np ((p0 * p2) * (q1 * q2) + (p1 * p2) * (q0 * q2)) ((q0 * q2) * (q1 * q2))), (nq ((p0 * p2) * (q1 * q2) + (p1 * p2) * (q0 * q2)) ((q0 * q2) * (q1 * q2)))), (g_m, frV s_m A_m n_m c_m t_m B_m m_m d_m, (np (p0 * p1) (q0 * q1)), (nq (p0 * p1) (q0 * q1))), (g_b, frV s_b A_b n_b c_b t_b B_b m_b d_b, (np p1 q1), (nq p1 q1)), (g_a, frV s_a A_a n_a c_a t_a B_a m_a d_a, (np p0 q0), (nq p0 q0))] []) (hsb : s_b = sg p1) (hz_a : Fz p0 q0 6 6) (hz_b : Fz p1 q1 6 6) (hz_m : Fz (p0 * p1) (q0 * q1) 12 12) (hz_x4 : Fz ((p0 * q1 + p1 * q0) * q1 - p1 * (q0 * q1)) ((q0 * q1) * q1) 20 18) (hgx : w.heap.size ≤ g_x) (hgy : w.heap.size ≤ g_y) :
    Code.wp Tryz.prog (tailO 22 Tryz.f5.body) (bodyPost Tryz.prog Tryz.f5 fun e w' => e = .returned (.bool true) ∧ Below w.heap.size w w') { tmps := #[frV s_a A_a n_a c_a t_a B_a m_a d_a, frV s_b A_b n_b c_b t_b B_b m_b d_b, x2, .pointer (some ⟨g_a, 0, none⟩), .pointer (some ⟨g_b, 0, none⟩), x5, .bool false, .bool true, x8, .bool true, x10, x11, x12, x13, .pointer (some ⟨g_x, 0, none⟩), x15, .pointer (some ⟨g_y, 0, none⟩), x17, .pointer (some ⟨g_m, 0, none⟩), x19, x20, x21, x22, x23, x24, x25, x26, x27, x28, x29, x30, x31, x32, x33, x34, x35, x36, x37, x38, x39, x40, x41, x42, x43, x44, x45, x46, x47, x48, x49, x50, x51, x52, x53, x54, x55, x56, x57, x58, x59, x60, x61, x62, x63, x64, x65, x66, x67, x68, x69, x70, x71, x72, x73, x74, x75, x76, x77, x78, x79, x80, x81, x82, x83, x84, x85, x86, x87, x88, x89, x90, x91, x92, x93, x94, x95, x96, x97, x98, x99, x100, x101, x102, x103, x104, x105, x106, x107, x108, x109, x110, x111, x112, x113, x114, x115, x116, x117, x118, x119, x120, x121, x122, x123, x124, x125, x126, x127, x128, x129, x130, x131, x132, x133, x134, x135, x136, x137, x138, x139, x140, x141, x142, x143, x144, x145, x146, x147, x148, x149, x150, x151, x152, x153, x154, x155, x156, x157, x158, x159, x160, x161, x162, x163, x164, x165, x166, x167, x168, x169, x170, x171, x172, x173, x174, x175, x176, x177, x178, x179, x180, x181, x182, x183, x184, x185, x186, x187, x188, x189, x190, x191, x192, x193, x194, x195, x196, x197, x198, x199, x200, x201, x202, x203, x204, x205, x206, x207, x208, x209, x210, x211, x212, x213, x214, x215, x216, x217, x218, x219, x220, x221, x222, x223, x224, x225, x226, x227, x228, x229, x230, x231, x232, x233, x234, x235, x236, x237, x238, x239, x240, x241, x242, x243, x244, x245, x246, x247, x248, x249, x250, x251, x252, x253, x254, x255, x256, x257, x258, x259, x260, x261, x262, x263, x264, x265, x266, x267, x268, x269, x270, x271, x272, x273, x274, x275, x276, x277, x278, x279, x280, x281, x282, x283, x284, x285, x286, x287, x288, x289, x290, x291, x292, x293, x294, x295, x296, x297, x298, x299, x300, x301, x302, x303, x304, x305, x306, x307, x308, x309, x310, x311, x312, x313, x314, x315, x316, x317, x318, x319, x320, x321, x322, x323, x324, x325, x326, x327, x328, x329, x330, x331, x332], defers := [] } W := by
  have HE := Lib.hid he
  have HS_b := Lib.hid hsb
  have HZ_a := Lib.hid hz_a
  have HZ_b := Lib.hid hz_b
  have HZ_m := Lib.hid hz_m
  have HZ_x4 := Lib.hid hz_x4
  have HGE_x := Lib.hid hgx
  have HGE_y := Lib.hid hgy
  clear he hsb hgx hgy hz_a hz_b hz_m hz_x4
  conv => arg 2; whnf
  by_cases hb0 : p1 = 0
  · have HB0 := Lib.hid hb0
    clear hb0
    have cf1 := (HE.out.fr (i := 2) rfl).cell 0
    have cf2 := (HE.out.fr (i := 2) rfl).cell 1
    have cf3 := (HE.out.fr (i := 2) rfl).cell 2
    have cf4 := (HE.out.fr (i := 2) rfl).cell 3
    have cf5 := (HE.out.fr (i := 3) rfl).cell 0
    have cf6 := (HE.out.fr (i := 3) rfl).cell 1
    have cf7 := (HE.out.fr (i := 3) rfl).cell 2
    have cf8 := (HE.out.fr (i := 3) rfl).cell 3
    go_wp2_with (fail)
    go_must (refine (fdiv_zero _ HE.out.size (HE.out.fp (i := 2) rfl) (HE.out.fq (i := 2) rfl) (HE.out.fp (i := 3) rfl) (HE.out.fq (i := 3) rfl) HZ_m.out.rt HZ_b.out.rt (by rw [HB0.out]; exact np_zero HZ_b.out.ne)).mono ?_)
    rintro e W1 ⟨rfl, hb⟩
    replace HE := Lib.hid (HE.out.keep hb)
    clear hb
    clear cf1 cf2 cf3 cf4 cf5 cf6 cf7 cf8
    have HR := Lib.hid (HE.out.fr (i := 1) rfl)
    have gr0 := HR.out.frozen 0
    have gc0 := HR.out.cell 0
    have gr1 := HR.out.frozen 1
    have gc1 := HR.out.cell 1
    have gr2 := HR.out.frozen 2
    have gc2 := HR.out.cell 2
    have gr3 := HR.out.frozen 3
    have gc3 := HR.out.cell 3
    have hlt2 := HR.out.lt
    have HZB : Hid (IsBig w.heap.size W1 (bigV 0 none 0 0) 0) := Lib.hid (IsBig.zero _)
    replace HE := Lib.hid (Env.ptF (L1 := [(g_x, frV s_x A_x n_x c_x t_x B_x m_x d_x, (np ((p0 * q1 + p1 * q0) * q1 - p1 * (q0 * q1)) ((q0 * q1) * q1)), (nq ((p0 * q1 + p1 * q0) * q1 - p1 * (q0 * q1)) ((q0 * q1) * q1)))]) HE.out HGE_y.out HR.out HZB.out HZB.out)
    clear HZB
    simp only [List.nil_append, List.cons_append] at HE
    have hzb : (s_b == 0) = true := by
      rw [HS_b.out, HB0.out]; rfl
    have cf9 := (HE.out.fr (i := 3) rfl).cell 0
    have cf10 := (HE.out.fr (i := 3) rfl).cell 1
    have cf11 := (HE.out.fr (i := 3) rfl).cell 2
    have cf12 := (HE.out.fr (i := 3) rfl).cell 3
    have cf13 := (HE.out.fr (i := 1) rfl).cell 0
    have cf14 := (HE.out.fr (i := 1) rfl).cell 1
    have cf15 := (HE.out.fr (i := 1) rfl).cell 2
    have cf16 := (HE.out.fr (i := 1) rfl).cell 3
    have cf17 := (HE.out.fr (i := 4) rfl).cell 0
    have cf18 := (HE.out.fr (i := 4) rfl).cell 1
    have cf19 := (HE.out.fr (i := 4) rfl).cell 2
    have cf20 := (HE.out.fr (i := 4) rfl).cell 3
    go_wp2_with (fail)
    go_must (refine (fsame_z _ (HE.out.fp (i := 1) rfl) (HE.out.fq (i := 1) rfl) (HE.out.fp (i := 4) rfl) (HE.out.fq (i := 4) rfl) HZ_x4.out.ne HZ_a.out.ne (by grind)).mono ?_)
    rintro e W2 ⟨rfl, hb⟩
    replace HE := Lib.hid (HE.out.keep hb)
    clear hb
    clear cf13 cf14 cf15 cf16 cf17 cf18 cf19 cf20
    clear cf9 cf10 cf11 cf12 HR gr0 gr1 gr2 gr3 gc0 gc1 gc2 gc3 hlt2
    go_wp2
    go_ret
    exact ⟨rfl, HE.out.b⟩
  · have HB0 := Lib.hid hb0
    clear hb0
    have cf1 := (HE.out.fr (i := 2) rfl).cell 0
    have cf2 := (HE.out.fr (i := 2) rfl).cell 1
    have cf3 := (HE.out.fr (i := 2) rfl).cell 2
    have cf4 := (HE.out.fr (i := 2) rfl).cell 3
    have cf5 := (HE.out.fr (i := 3) rfl).cell 0
    have cf6 := (HE.out.fr (i := 3) rfl).cell 1
    have cf7 := (HE.out.fr (i := 3) rfl).cell 2
    have cf8 := (HE.out.fr (i := 3) rfl).cell 3
    go_wp2_with (fail)
    go_must (refine (fdiv_z _ HE.out.size (HE.out.fp (i := 2) rfl) (HE.out.fq (i := 2) rfl) (HE.out.fp (i := 3) rfl) (HE.out.fq (i := 3) rfl) HZ_m.out HZ_b.out (by omega) HB0.out).mono ?_)
    rintro e W1 ⟨s1, A1, n1, c1, t1, B1, m1, d1, rfl, hp1, hq1, hb⟩
    replace HE := Lib.hid (HE.out.keep hb)
    clear hb
    clear cf1 cf2 cf3 cf4 cf5 cf6 cf7 cf8
    have Hhp1 := Lib.hid hp1
    clear hp1
    have Hhq1 := Lib.hid hq1
    clear hq1
    have HR := Lib.hid (HE.out.fr (i := 1) rfl)
    have gr0 := HR.out.frozen 0
    have gc0 := HR.out.cell 0
    have gr1 := HR.out.frozen 1
    have gc1 := HR.out.cell 1
    have gr2 := HR.out.frozen 2
    have gc2 := HR.out.cell 2
    have gr3 := HR.out.frozen 3
    have gc3 := HR.out.cell 3
    have hlt2 := HR.out.lt
    replace HE := Lib.hid (Env.ptF (L1 := [(g_x, frV s_x A_x n_x c_x t_x B_x m_x d_x, (np ((p0 * q1 + p1 * q0) * q1 - p1 * (q0 * q1)) ((q0 * q1) * q1)), (nq ((p0 * q1 + p1 * q0) * q1 - p1 * (q0 * q1)) ((q0 * q1) * q1)))]) HE.out HGE_y.out HR.out Hhp1.out Hhq1.out)
    clear Hhp1 Hhq1
    simp only [List.nil_append, List.cons_append] at HE
    have hzb : (s_b == 0) = false := by
      have h1 := sg_cases p1
      rw [← HS_b.out] at h1
      have h2 := HB0.out
      simp
      omega
    have cf9 := (HE.out.fr (i := 3) rfl).cell 0
    have cf10 := (HE.out.fr (i := 3) rfl).cell 1
    have cf11 := (HE.out.fr (i := 3) rfl).cell 2
    have cf12 := (HE.out.fr (i := 3) rfl).cell 3
    have cf13 := (HE.out.fr (i := 1) rfl).cell 0
    have cf14 := (HE.out.fr (i := 1) rfl).cell 1
    have cf15 := (HE.out.fr (i := 1) rfl).cell 2
    have cf16 := (HE.out.fr (i := 1) rfl).cell 3
    have cf17 := (HE.out.fr (i := 4) rfl).cell 0
    have cf18 := (HE.out.fr (i := 4) rfl).cell 1
    have cf19 := (HE.out.fr (i := 4) rfl).cell 2
    have cf20 := (HE.out.fr (i := 4) rfl).cell 3
    go_wp2_with (fail)
    go_must (refine (fsame_z _ (HE.out.fp (i := 1) rfl) (HE.out.fq (i := 1) rfl) (HE.out.fp (i := 4) rfl) (HE.out.fq (i := 4) rfl) HZ_x4.out.ne HZ_a.out.ne (by grind)).mono ?_)
    rintro e W2 ⟨rfl, hb⟩
    replace HE := Lib.hid (HE.out.keep hb)
    clear hb
    clear cf13 cf14 cf15 cf16 cf17 cf18 cf19 cf20
    clear cf9 cf10 cf11 cf12 HR gr0 gr1 gr2 gr3 gc0 gc1 gc2 gc3 hlt2
    have cf21 := (HE.out.fr (i := 0) rfl).cell 0
    have cf22 := (HE.out.fr (i := 0) rfl).cell 1
    have cf23 := (HE.out.fr (i := 0) rfl).cell 2
    have cf24 := (HE.out.fr (i := 0) rfl).cell 3
    have cf25 := (HE.out.fr (i := 4) rfl).cell 0
    have cf26 := (HE.out.fr (i := 4) rfl).cell 1
    have cf27 := (HE.out.fr (i := 4) rfl).cell 2
    have cf28 := (HE.out.fr (i := 4) rfl).cell 3
    go_wp2_with (fail)
    go_must (refine (fsame_z _ (HE.out.fp (i := 0) rfl) (HE.out.fq (i := 0) rfl) (HE.out.fp (i := 4) rfl) (HE.out.fq (i := 4) rfl) (Int.mul_ne_zero (Int.mul_ne_zero HZ_a.out.ne HZ_b.out.ne) HB0.out) HZ_a.out.ne (by grind)).mono ?_)
    rintro e W3 ⟨rfl, hb⟩
    replace HE := Lib.hid (HE.out.keep hb)
    clear hb
    clear cf21 cf22 cf23 cf24 cf25 cf26 cf27 cf28
    go_wp2
    go_ret
    exact ⟨rfl, HE.out.b⟩
end
end Go.Proofs.YtnifkianjpjahaaGreatDoor.Bg
