/- FracField: from the comparison of the last sums to the last difference. -/
import Derived.Test.YtnifkianjpjahaaGreatDoorLFrD4
import Derived.Deep.DeepCutAuto
import Derived.Deep.RegionHeld3
namespace Go.Proofs.YtnifkianjpjahaaGreatDoor.Bg
open Go.ChangeShapes Go.WideShapes Go.ChangeAt Go.RowKit Go.Proofs.YtnifkianjpjahaaGreatDoor.Cell
set_option linter.unusedVariables false
set_option linter.unusedSimpArgs false
variable {N0 : Nat}
section
variable {p0 q0 p1 q1 p2 q2 : Int} {g_ww : Nat} {s_ww t_ww : Int} {A_ww B_ww : Option Addr} {n_ww c_ww m_ww d_ww : Nat} {g_zz : Nat} {s_zz t_zz : Int} {A_zz B_zz : Option Addr} {n_zz c_zz m_zz d_zz : Nat} {g_y : Nat} {s_y t_y : Int} {A_y B_y : Option Addr} {n_y c_y m_y d_y : Nat} {g_x : Nat} {s_x t_x : Int} {A_x B_x : Option Addr} {n_x c_x m_x d_x : Nat} {g_m : Nat} {s_m t_m : Int} {A_m B_m : Option Addr} {n_m c_m m_m d_m : Nat} {g_ab : Nat} {s_ab t_ab : Int} {A_ab B_ab : Option Addr} {n_ab c_ab m_ab d_ab : Nat} {g_b : Nat} {s_b t_b : Int} {A_b B_b : Option Addr} {n_b c_b m_b d_b : Nat} {g_a : Nat} {s_a t_a : Int} {A_a B_a : Option Addr} {n_a c_a m_a d_a : Nat}
variable {x2 x5 x10 x12 x19 x20 x21 x24 x25 x26 x27 x28 x29 x30 x31 x32 x33 x34 x35 x36 x37 x38 x39 x40 x41 x42 x43 x44 x45 x46 x47 x48 x49 x50 x51 x52 x53 x54 x55 x56 x57 x58 x59 x60 x61 x62 x63 x64 x65 x66 x67 x68 x69 x70 x71 x72 x73 x74 x75 x76 x77 x78 x79 x80 x81 x82 x83 x84 x85 x86 x87 x88 x89 x90 x91 x92 x93 x94 x95 x96 x97 x98 x99 x100 x101 x102 x103 x104 x105 x106 x107 x108 x109 x110 x111 x112 x113 x114 x115 x116 x117 x118 x119 x120 x121 x122 x123 x124 x125 x126 x127 x128 x129 x130 x131 x132 x133 x134 x135 x136 x137 x138 x139 x140 x141 x142 x143 x144 x145 x146 x147 x148 x149 x150 x151 x152 x153 x154 x155 x156 x157 x158 x159 x160 x161 x162 x163 x164 x165 x166 x167 x168 x169 x170 x171 x172 x173 x174 x175 x176 x177 x178 x179 x180 x181 x182 x183 x184 x185 x186 x187 x188 x189 x190 x191 x192 x193 x194 x195 x196 x197 x198 x199 x200 x201 x202 x203 x204 x205 x206 x207 x208 x209 x210 x211 x212 x213 x214 x215 x216 x217 x218 x219 x220 x221 x222 x223 x224 x225 x226 x227 x228 x229 x230 x231 x232 x233 x234 x235 x236 x237 x238 x239 x240 x241 x242 x243 x244 x245 x246 x247 x248 x249 x250 x251 x252 x253 x254 x255 x256 x257 x258 x259 x260 x261 x262 x263 x264 x265 x266 x267 x268 x269 x270 x271 x272 x273 x274 x275 x276 x277 x278 x279 x280 x281 x282 x283 x284 x285 x286 x287 x288 x289 x290 x291 x292 x293 x294 x295 x296 x297 x298 x299 x300 x301 x302 x303 x304 x305 x306 x307 x308 x309 x310 x311 x312 x313 x314 x315 x316 x317 x318 x319 x320 x321 x322 x323 x324 x325 x326 x327 x328 x329 x330 x331 x332 : Value}
set_option maxRecDepth 100000 in
set_option maxHeartbeats 16000000 in
theorem ffield_d2 (w W : World) (he : Env w.heap.size w W [(g_ww, frV s_ww A_ww n_ww c_ww t_ww B_ww m_ww d_ww, (np (p0 * (1 : Int)) (q0 * (1 : Int))), (nq (p0 * (1 : Int)) (q0 * (1 : Int)))), (g_zz, frV s_zz A_zz n_zz c_zz t_zz B_zz m_zz d_zz, (np (p0 * (1 : Int) + (0 : Int) * q0) (q0 * (1 : Int))), (nq (p0 * (1 : Int) + (0 : Int) * q0) (q0 * (1 : Int)))), (g_y, frV s_y A_y n_y c_y t_y B_y m_y d_y, (np ((p0 * p2) * (q1 * q2) + (p1 * p2) * (q0 * q2)) ((q0 * q2) * (q1 * q2))), (nq ((p0 * p2) * (q1 * q2) + (p1 * p2) * (q0 * q2)) ((q0 * q2) * (q1 * q2)))), (g_x, frV s_x A_x n_x c_x t_x B_x m_x d_x, (np ((p0 * q1 + p1 * q0) * p2) ((q0 * q1) * q2)), (nq ((p0 * q1 + p1 * q0) * p2) ((q0 * q1) * q2))), (g_m, frV s_m A_m n_m c_m t_m B_m m_m d_m, (np (p0 * p1) (q0 * q1)), (nq (p0 * p1) (q0 * q1))), (g_ab, frV s_ab A_ab n_ab c_ab t_ab B_ab m_ab d_ab, (np (p0 * q1 + p1 * q0) (q0 * q1)), (nq (p0 * q1 + p1 * q0) (q0 * q1))), (g_b, frV s_b A_b n_b c_b t_b B_b m_b d_b, (np p1 q1), (nq p1 q1)), (g_a, frV s_a A_a n_a c_a t_a B_a m_a d_a, (np p0 q0), (nq p0 q0))] []) (hsb : s_b = sg p1) (hz_a : Fz p0 q0 6 6) (hz_b : Fz p1 q1 6 6) (hz_ab : Fz (p0 * q1 + p1 * q0) (q0 * q1) 13 12) (hz_m : Fz (p0 * p1) (q0 * q1) 12 12) (hz_x3 : Fz ((p0 * q1 + p1 * q0) * p2) ((q0 * q1) * q2) 19 18) (hz_y3 : Fz ((p0 * p2) * (q1 * q2) + (p1 * p2) * (q0 * q2)) ((q0 * q2) * (q1 * q2)) 25 24) (hz_zz : Fz (p0 * (1 : Int) + (0 : Int) * q0) (q0 * (1 : Int)) 8 7) (hz_ww : Fz (p0 * (1 : Int)) (q0 * (1 : Int)) 7 7) (hgx : w.heap.size ≤ g_x) (hgy : w.heap.size ≤ g_y) :
    Code.wp Tryz.prog (tailO 20 Tryz.f5.body) (bodyPost Tryz.prog Tryz.f5 fun e w' => e = .returned (.bool true) ∧ Below w.heap.size w w') { tmps := #[frV s_a A_a n_a c_a t_a B_a m_a d_a, frV s_b A_b n_b c_b t_b B_b m_b d_b, x2, .pointer (some ⟨g_a, 0, none⟩), .pointer (some ⟨g_b, 0, none⟩), x5, .bool false, .bool true, .pointer (some ⟨g_ab, 0, none⟩), .bool true, x10, .bool true, x12, .bool true, .pointer (some ⟨g_x, 0, none⟩), .bool true, .pointer (some ⟨g_y, 0, none⟩), .bool true, .pointer (some ⟨g_m, 0, none⟩), x19, x20, x21, .pointer (some ⟨g_zz, 0, none⟩), .pointer (some ⟨g_ww, 0, none⟩), x24, x25, x26, x27, x28, x29, x30, x31, x32, x33, x34, x35, x36, x37, x38, x39, x40, x41, x42, x43, x44, x45, x46, x47, x48, x49, x50, x51, x52, x53, x54, x55, x56, x57, x58, x59, x60, x61, x62, x63, x64, x65, x66, x67, x68, x69, x70, x71, x72, x73, x74, x75, x76, x77, x78, x79, x80, x81, x82, x83, x84, x85, x86, x87, x88, x89, x90, x91, x92, x93, x94, x95, x96, x97, x98, x99, x100, x101, x102, x103, x104, x105, x106, x107, x108, x109, x110, x111, x112, x113, x114, x115, x116, x117, x118, x119, x120, x121, x122, x123, x124, x125, x126, x127, x128, x129, x130, x131, x132, x133, x134, x135, x136, x137, x138, x139, x140, x141, x142, x143, x144, x145, x146, x147, x148, x149, x150, x151, x152, x153, x154, x155, x156, x157, x158, x159, x160, x161, x162, x163, x164, x165, x166, x167, x168, x169, x170, x171, x172, x173, x174, x175, x176, x177, x178, x179, x180, x181, x182, x183, x184, x185, x186, x187, x188, x189, x190, x191, x192, x193, x194, x195, x196, x197, x198, x199, x200, x201, x202, x203, x204, x205, x206, x207, x208, x209, x210, x211, x212, x213, x214, x215, x216, x217, x218, x219, x220, x221, x222, x223, x224, x225, x226, x227, x228, x229, x230, x231, x232, x233, x234, x235, x236, x237, x238, x239, x240, x241, x242, x243, x244, x245, x246, x247, x248, x249, x250, x251, x252, x253, x254, x255, x256, x257, x258, x259, x260, x261, x262, x263, x264, x265, x266, x267, x268, x269, x270, x271, x272, x273, x274, x275, x276, x277, x278, x279, x280, x281, x282, x283, x284, x285, x286, x287, x288, x289, x290, x291, x292, x293, x294, x295, x296, x297, x298, x299, x300, x301, x302, x303, x304, x305, x306, x307, x308, x309, x310, x311, x312, x313, x314, x315, x316, x317, x318, x319, x320, x321, x322, x323, x324, x325, x326, x327, x328, x329, x330, x331, x332], defers := [] } W := by
  have HE := Lib.hid he
  have HS_b := Lib.hid hsb
  have HZ_a := Lib.hid hz_a
  have HZ_b := Lib.hid hz_b
  have HZ_ab := Lib.hid hz_ab
  have HZ_m := Lib.hid hz_m
  have HZ_x3 := Lib.hid hz_x3
  have HZ_y3 := Lib.hid hz_y3
  have HZ_zz := Lib.hid hz_zz
  have HZ_ww := Lib.hid hz_ww
  have HGE_x := Lib.hid hgx
  have HGE_y := Lib.hid hgy
  clear he hsb hgx hgy hz_a hz_b hz_ab hz_m hz_x3 hz_y3 hz_zz hz_ww
  conv => arg 2; whnf
  have cf1 := (HE.out.fr (i := 3) rfl).cell 0
  have cf2 := (HE.out.fr (i := 3) rfl).cell 1
  have cf3 := (HE.out.fr (i := 3) rfl).cell 2
  have cf4 := (HE.out.fr (i := 3) rfl).cell 3
  have cf5 := (HE.out.fr (i := 2) rfl).cell 0
  have cf6 := (HE.out.fr (i := 2) rfl).cell 1
  have cf7 := (HE.out.fr (i := 2) rfl).cell 2
  have cf8 := (HE.out.fr (i := 2) rfl).cell 3
  go_wp2_with (fail)
  go_must (refine (fsame_z _ (HE.out.fp (i := 3) rfl) (HE.out.fq (i := 3) rfl) (HE.out.fp (i := 2) rfl) (HE.out.fq (i := 2) rfl) HZ_x3.out.ne HZ_y3.out.ne (by grind)).mono ?_)
  rintro e W1 ⟨rfl, hb⟩
  replace HE := Lib.hid (HE.out.keep hb)
  clear hb
  clear cf1 cf2 cf3 cf4 cf5 cf6 cf7 cf8
  have cf9 := (HE.out.fr (i := 1) rfl).cell 0
  have cf10 := (HE.out.fr (i := 1) rfl).cell 1
  have cf11 := (HE.out.fr (i := 1) rfl).cell 2
  have cf12 := (HE.out.fr (i := 1) rfl).cell 3
  have cf13 := (HE.out.fr (i := 7) rfl).cell 0
  have cf14 := (HE.out.fr (i := 7) rfl).cell 1
  have cf15 := (HE.out.fr (i := 7) rfl).cell 2
  have cf16 := (HE.out.fr (i := 7) rfl).cell 3
  go_wp2_with (fail)
  go_must (refine (fsame_z _ (HE.out.fp (i := 1) rfl) (HE.out.fq (i := 1) rfl) (HE.out.fp (i := 7) rfl) (HE.out.fq (i := 7) rfl) HZ_zz.out.ne HZ_a.out.ne (by grind)).mono ?_)
  rintro e W2 ⟨rfl, hb⟩
  replace HE := Lib.hid (HE.out.keep hb)
  clear hb
  clear cf9 cf10 cf11 cf12 cf13 cf14 cf15 cf16
  have cf17 := (HE.out.fr (i := 0) rfl).cell 0
  have cf18 := (HE.out.fr (i := 0) rfl).cell 1
  have cf19 := (HE.out.fr (i := 0) rfl).cell 2
  have cf20 := (HE.out.fr (i := 0) rfl).cell 3
  have cf21 := (HE.out.fr (i := 7) rfl).cell 0
  have cf22 := (HE.out.fr (i := 7) rfl).cell 1
  have cf23 := (HE.out.fr (i := 7) rfl).cell 2
  have cf24 := (HE.out.fr (i := 7) rfl).cell 3
  go_wp2_with (fail)
  go_must (refine (fsame_z _ (HE.out.fp (i := 0) rfl) (HE.out.fq (i := 0) rfl) (HE.out.fp (i := 7) rfl) (HE.out.fq (i := 7) rfl) HZ_ww.out.ne HZ_a.out.ne (by grind)).mono ?_)
  rintro e W3 ⟨rfl, hb⟩
  replace HE := Lib.hid (HE.out.keep hb)
  clear hb
  clear cf17 cf18 cf19 cf20 cf21 cf22 cf23 cf24
  replace HE := Lib.hid (HE.out.sub (.cons _ (.cons _ (.cons_cons _ (.cons_cons _ (.cons_cons _ (.cons_cons _ (.cons_cons _ (.cons_cons _ .slnil)))))))) (.refl _))
  have HZ_x4 : Hid (Fz ((p0 * q1 + p1 * q0) * q1 - p1 * (q0 * q1)) ((q0 * q1) * q1) 20 18) := Lib.hid (HZ_ab.out.sub HZ_b.out (K := 19) (by omega) (by omega))
  go_upto_region 25 with (fail)
  go_cut [9] (fun d wx => ∃ vs vA vn vc vt vB vm vd, d = .bool true ∧ Hid (Env w.heap.size w wx ((g_x, frV vs vA vn vc vt vB vm vd, (np ((p0 * q1 + p1 * q0) * q1 - p1 * (q0 * q1)) ((q0 * q1) * q1)), (nq ((p0 * q1 + p1 * q0) * q1 - p1 * (q0 * q1)) ((q0 * q1) * q1))) :: [(g_y, frV s_y A_y n_y c_y t_y B_y m_y d_y, (np ((p0 * p2) * (q1 * q2) + (p1 * p2) * (q0 * q2)) ((q0 * q2) * (q1 * q2))), (nq ((p0 * p2) * (q1 * q2) + (p1 * p2) * (q0 * q2)) ((q0 * q2) * (q1 * q2)))), (g_m, frV s_m A_m n_m c_m t_m B_m m_m d_m, (np (p0 * p1) (q0 * q1)), (nq (p0 * p1) (q0 * q1))), (g_ab, frV s_ab A_ab n_ab c_ab t_ab B_ab m_ab d_ab, (np (p0 * q1 + p1 * q0) (q0 * q1)), (nq (p0 * q1 + p1 * q0) (q0 * q1))), (g_b, frV s_b A_b n_b c_b t_b B_b m_b d_b, (np p1 q1), (nq p1 q1)), (g_a, frV s_a A_a n_a c_a t_a B_a m_a d_a, (np p0 q0), (nq p0 q0))]) []))
  case first =>
    have cf25 := (HE.out.fr (i := 3) rfl).cell 0
    have cf26 := (HE.out.fr (i := 3) rfl).cell 1
    have cf27 := (HE.out.fr (i := 3) rfl).cell 2
    have cf28 := (HE.out.fr (i := 3) rfl).cell 3
    have cf29 := (HE.out.fr (i := 4) rfl).cell 0
    have cf30 := (HE.out.fr (i := 4) rfl).cell 1
    have cf31 := (HE.out.fr (i := 4) rfl).cell 2
    have cf32 := (HE.out.fr (i := 4) rfl).cell 3
    go_wp2_with (fail)
    go_must (refine (fsub_z (K := 19) _ HE.out.size (HE.out.fp (i := 3) rfl) (HE.out.fq (i := 3) rfl) (HE.out.fp (i := 4) rfl) (HE.out.fq (i := 4) rfl) HZ_ab.out HZ_b.out (by omega)).mono ?_)
    rintro e W4 ⟨s4, A4, n4, c4, t4, B4, m4, d4, rfl, hp4, hq4, hb⟩
    replace HE := Lib.hid (HE.out.keep hb)
    clear hb
    clear cf25 cf26 cf27 cf28 cf29 cf30 cf31 cf32
    have Hhp4 := Lib.hid hp4
    clear hp4
    have Hhq4 := Lib.hid hq4
    clear hq4
    go_wp2_with (fail)
    go_must (refine (lright_yes _ HE.out.size Hhp4.out Hhq4.out HZ_x4.out.rt).mono ?_)
    rintro e W5 ⟨rfl, hb, _, _⟩
    replace HE := Lib.hid (HE.out.keep hb)
    replace Hhp4 := Lib.hid (Hhp4.out.keep hb)
    replace Hhq4 := Lib.hid (Hhq4.out.keep hb)
    clear hb
    have HR := Lib.hid (HE.out.fr (i := 1) rfl)
    have gr0 := HR.out.frozen 0
    have gc0 := HR.out.cell 0
    have gr1 := HR.out.frozen 1
    have gc1 := HR.out.cell 1
    have gr2 := HR.out.frozen 2
    have gc2 := HR.out.cell 2
    have gr3 := HR.out.frozen 3
    have gc3 := HR.out.cell 3
    have hlt2 := HR.out.lt
    replace HE := Lib.hid (Env.ptF (L1 := [(g_y, frV s_y A_y n_y c_y t_y B_y m_y d_y, (np ((p0 * p2) * (q1 * q2) + (p1 * p2) * (q0 * q2)) ((q0 * q2) * (q1 * q2))), (nq ((p0 * p2) * (q1 * q2) + (p1 * p2) * (q0 * q2)) ((q0 * q2) * (q1 * q2))))]) HE.out HGE_x.out HR.out Hhp4.out Hhq4.out)
    clear Hhp4 Hhq4
    simp only [List.nil_append, List.cons_append] at HE
    go_wp2
    go_meet
    exact ⟨_, _, _, _, _, _, _, _, rfl, HE⟩
  obtain ⟨sNx, ANx, nNx, cNx, tNx, BNx, mNx, dNx, rfl, HEn⟩ := hcut
  replace HE := HEn
  clear HEn
  rename World => W6
  replace HE := Lib.hid (HE.out.sub (.cons_cons _ (.cons_cons _ (.cons_cons _ (.cons _ (.cons_cons _ (.cons_cons _ .slnil)))))) (.refl _))
  rename_i K hK
  apply hK
  exact ffield_e w _ HE.out HS_b.out HZ_a.out HZ_b.out HZ_m.out HZ_x4.out HGE_x.out HGE_y.out
end
end Go.Proofs.YtnifkianjpjahaaGreatDoor.Bg
