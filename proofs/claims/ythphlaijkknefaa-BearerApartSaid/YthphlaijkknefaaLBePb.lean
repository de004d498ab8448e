/- BearerApart: without the piece. -/
import Derived.Test.YthphlaijkknefaaBeaAq
import Derived.Deep.DeepCutAuto
import Derived.Deep.RegionHeld3
namespace Go.Proofs.Ythphlaijkknefaa.Bea
open Go.ChangeShapes Go.WideShapes Go.ChangeAt Go.RowKit Go.Proofs.Ythphlaijkknefaa.Cell
set_option linter.unusedVariables false
set_option linter.unusedSimpArgs false
theorem pcl_sub {w : World} {A : Option Addr} {l : List Pc} {k : Nat} {x : Pc} (h : Pcl w A l) (hx : l[k]? = some x) : Pcl w (A.map (·.add (k * 5))) [x] := fun _ => by
  obtain ⟨b, off, rfl, hc⟩ := h (by have := lt_of_at hx; omega)
  refine ⟨b, off + k * 5, by simp [add_lit'], fun j y hy => ?_⟩
  cases j with
  | zero =>
    have e : x = y := by simpa using hy
    subst e
    simpa using hc k x hx
  | succ j => simp at hy
theorem hrs_keep {w0 w1 : World} {P : List (Pc × Value)} (h : ∀ y ∈ P, ∃ A c, y.2 = .slice A y.1.pd.length c ∧ Boos w0 A y.1.pd) (hb : Below w0.heap.size w0 w1) (k : Nat) : ∀ y ∈ drp P k, ∃ A c, y.2 = .slice A y.1.pd.length c ∧ Boos w1 A y.1.pd := fun y hy => by
  obtain ⟨A, c, e, hbo⟩ := h y (drp_mem hy)
  exact ⟨A, c, e, hbo.keep hb⟩
section
variable {w wx : World} {A : Option Addr} {n cap g2 c2 gx p k : Nat} {l : List Pc} {kq co wh d E N : Int} {x2 : Value}
variable {x0 x1 x3 x4 x5 x6 x7 x8 x9 x10 x11 x12 x13 x14 x15 x16 x17 x18 x19 x20 x21 x22 x23 x24 x25 x26 x27 x28 x29 x30 x31 x32 x33 x34 x35 x36 x37 x38 x39 x40 x41 x42 x43 x44 x45 x46 x47 x48 x49 x50 x51 x52 x53 x54 x55 x56 x57 x58 x59 x60 x61 x62 x63 x64 x65 x66 x67 x68 x69 x70 x71 x72 x73 x74 x75 x76 x77 x78 x79 x80 x81 x82 x83 x84 x85 x86 x87 x88 x89 x90 x91 x92 x93 x94 x95 x96 x97 x98 x99 x100 x101 x102 x103 x104 x105 x106 x107 x108 x109 x110 x111 x112 x113 x114 x115 x116 x117 x118 x119 x120 x121 x122 x123 x124 x125 x126 x127 x128 x129 x130 x131 x132 x133 x134 x135 x136 x137 x138 x139 x140 x141 x142 x143 x144 x145 x146 x147 x148 x149 x150 x151 x152 x153 x154 x155 x156 x157 x158 x159 x160 x161 x162 x163 x164 x165 x166 x167 x168 x169 x170 x171 x172 x173 x174 x175 x176 x177 x178 x179 x180 x181 x182 x183 x184 x185 x186 x187 x188 x189 x190 x191 x192 x193 x194 x195 x196 x197 x198 x199 x200 x201 x202 x203 x204 x205 x206 x207 x208 x209 x210 x211 x212 x213 x214 x215 x216 x217 x218 x219 x220 x221 x222 x223 x224 x225 x226 x227 x228 x229 x230 x231 x232 x233 x234 x235 x236 x237 x238 x239 x240 x241 x242 x243 x244 x245 x246 x247 x248 x249 x250 x251 x252 : Value}
set_option maxRecDepth 100000 in
set_option maxHeartbeats 16000000 in
theorem md_same {K' : Act → World → Prop} (hK : ∀ (u12 u13 u14 u15 u16 u18 u19 u20 u21 u22 u23 u24 u25 u26 u27 u28 u29 u30 u31 u32 u33 u34 u35 u36 u37 u38 u39 u40 u41 u42 u43 u44 u45 u46 u47 u48 u49 u50 u51 u52 u53 u54 u55 u56 u57 u58 u59 u60 u61 u62 u63 u64 u65 u66 u67 u68 u69 u70 u71 u72 u73 u74 u75 u76 u77 u78 u79 u80 u81 u82 u83 u84 u85 u86 u87 u88 u89 u90 u91 u92 u93 u94 u95 u96 u97 u98 u99 u100 u101 u102 u103 u104 u105 u106 u107 u108 u109 u110 u111 u112 u113 u114 u115 u116 u117 u118 u119 u120 u121 u122 u123 u124 u125 u126 u127 u128 u129 u130 u131 u132 u133 u134 u135 u136 u137 u138 u139 u140 u141 u142 u143 u144 u145 u146 u147 u148 u149 u150 u151 u152 u153 u154 u155 u156 u157 u158 u159 u160 u161 u162 u163 u164 u165 u166 u167 u168 u169 u170 u171 u172 u173 u174 u175 u176 u177 u178 u179 u180 u181 u182 u183 u184 u185 u186 u187 u188 u189 u190 u191 u192 u193 u194 u195 u196 u197 u198 u199 u200 u201 u202 u203 u204 u205 u206 u207 u208 u209 u210 u211 u212 u213 u214 u215 u216 u217 u218 u219 u220 u221 u222 u223 u224 u225 u226 u227 u228 u229 u230 u231 u232 u233 u234 u235 u236 u237 u238 u239 u240 u241 u242 u243 u244 u245 u246 u247 u248 u249 u250 u251 u252 : Value) (w' : World), Below wx.heap.size wx w' → K' { tmps := #[.slice A n cap, x1, x2, x3, .pointer (some ⟨gx, 0, none⟩), x5, x6, .bool true, .int .i64 (k : Int), x9, x10, x11, u12, u13, u14, u15, u16, x17, u18, u19, u20, u21, u22, u23, u24, u25, u26, u27, u28, u29, u30, u31, u32, u33, u34, u35, u36, u37, u38, u39, u40, u41, u42, u43, u44, u45, u46, u47, u48, u49, u50, u51, u52, u53, u54, u55, u56, u57, u58, u59, u60, u61, u62, u63, u64, u65, u66, u67, u68, u69, u70, u71, u72, u73, u74, u75, u76, u77, u78, u79, u80, u81, u82, u83, u84, u85, u86, u87, u88, u89, u90, u91, u92, u93, u94, u95, u96, u97, u98, u99, u100, u101, u102, u103, u104, u105, u106, u107, u108, u109, u110, u111, u112, u113, u114, u115, u116, u117, u118, u119, u120, u121, u122, u123, u124, u125, u126, u127, u128, u129, u130, u131, u132, u133, u134, u135, u136, u137, u138, u139, u140, u141, u142, u143, u144, u145, u146, u147, u148, u149, u150, u151, u152, u153, u154, u155, u156, u157, u158, u159, u160, u161, u162, u163, u164, u165, u166, u167, u168, u169, u170, u171, u172, u173, u174, u175, u176, u177, u178, u179, u180, u181, u182, u183, u184, u185, u186, u187, u188, u189, u190, u191, u192, u193, u194, u195, u196, u197, u198, u199, u200, u201, u202, u203, u204, u205, u206, u207, u208, u209, u210, u211, u212, u213, u214, u215, u216, u217, u218, u219, u220, u221, u222, u223, u224, u225, u226, u227, u228, u229, u230, u231, u232, u233, u234, u235, u236, u237, u238, u239, u240, u241, u242, u243, u244, u245, u246, u247, u248, u249, u250, u251, u252], defers := [] } w') (hr : Row wx gx 27 #[.int .i64 kq, .int .i64 (p : Int), .int .i64 co, .int .i64 wh, .int .i64 d]) (hkp : k = p) :
    Code.wp Try.prog (headO 7 Try.f6.body) (Exit.then K' (bodyPost Try.prog Try.f6 fun e w' => e = .returned (.bool true) ∧ Below w.heap.size w w')) { tmps := #[.slice A n cap, x1, x2, x3, .pointer (some ⟨gx, 0, none⟩), x5, x6, .bool true, .int .i64 (k : Int), x9, x10, x11, x12, x13, x14, x15, x16, x17, x18, x19, x20, x21, x22, x23, x24, x25, x26, x27, x28, x29, x30, x31, x32, x33, x34, x35, x36, x37, x38, x39, x40, x41, x42, x43, x44, x45, x46, x47, x48, x49, x50, x51, x52, x53, x54, x55, x56, x57, x58, x59, x60, x61, x62, x63, x64, x65, x66, x67, x68, x69, x70, x71, x72, x73, x74, x75, x76, x77, x78, x79, x80, x81, x82, x83, x84, x85, x86, x87, x88, x89, x90, x91, x92, x93, x94, x95, x96, x97, x98, x99, x100, x101, x102, x103, x104, x105, x106, x107, x108, x109, x110, x111, x112, x113, x114, x115, x116, x117, x118, x119, x120, x121, x122, x123, x124, x125, x126, x127, x128, x129, x130, x131, x132, x133, x134, x135, x136, x137, x138, x139, x140, x141, x142, x143, x144, x145, x146, x147, x148, x149, x150, x151, x152, x153, x154, x155, x156, x157, x158, x159, x160, x161, x162, x163, x164, x165, x166, x167, x168, x169, x170, x171, x172, x173, x174, x175, x176, x177, x178, x179, x180, x181, x182, x183, x184, x185, x186, x187, x188, x189, x190, x191, x192, x193, x194, x195, x196, x197, x198, x199, x200, x201, x202, x203, x204, x205, x206, x207, x208, x209, x210, x211, x212, x213, x214, x215, x216, x217, x218, x219, x220, x221, x222, x223, x224, x225, x226, x227, x228, x229, x230, x231, x232, x233, x234, x235, x236, x237, x238, x239, x240, x241, x242, x243, x244, x245, x246, x247, x248, x249, x250, x251, x252], defers := [] } wx := by
  subst hkp
  have HKQ := Lib.hid hK
  have r1 := hr.cell 1
  clear hr hK
  conv => arg 2; whnf
  go_wp2
  exact HKQ.out _ _ _ _ _ _ _ _ _ _ _ _ _ _ _ _ _ _ _ _ _ _ _ _ _ _ _ _ _ _ _ _ _ _ _ _ _ _ _ _ _ _ _ _ _ _ _ _ _ _ _ _ _ _ _ _ _ _ _ _ _ _ _ _ _ _ _ _ _ _ _ _ _ _ _ _ _ _ _ _ _ _ _ _ _ _ _ _ _ _ _ _ _ _ _ _ _ _ _ _ _ _ _ _ _ _ _ _ _ _ _ _ _ _ _ _ _ _ _ _ _ _ _ _ _ _ _ _ _ _ _ _ _ _ _ _ _ _ _ _ _ _ _ _ _ _ _ _ _ _ _ _ _ _ _ _ _ _ _ _ _ _ _ _ _ _ _ _ _ _ _ _ _ _ _ _ _ _ _ _ _ _ _ _ _ _ _ _ _ _ _ _ _ _ _ _ _ _ _ _ _ _ _ _ _ _ _ _ _ _ _ _ _ _ _ _ _ _ _ _ _ _ _ _ _ _ _ _ _ _ _ _ _ _ _ _ _ _ _ _ _ (Below.refl _ _)
set_option maxRecDepth 100000 in
set_option maxHeartbeats 16000000 in
theorem md_13 {K' : Act → World → Prop} {Q' : Exit → Act → World → Prop} {w3 : World} (hb3 : Below wx.heap.size wx w3) (hn : l.length = n) (hc : Pcl wx A l) (hn12 : n ≤ 12) (hcap : n ≤ cap) (hk : k < n)
    (hK : ∀ (A6 : Option Addr) (c6 : Nat) (u86 u87 u88 u89 u90 u91 u92 u93 u94 u95 : Value) (w' : World), Below w3.heap.size w3 w' → Pcl w' A6 (drp l k) → K' { tmps := #[.slice A n cap, x1, x2, x3, x4, x5, x6, x7, .int .i64 (k : Int), x9, x10, x11, x12, .slice A6 (n - 1) c6, x14, x15, x16, x17, x18, x19, x20, x21, x22, x23, x24, x25, x26, x27, x28, x29, x30, x31, x32, x33, x34, x35, x36, x37, x38, x39, x40, x41, x42, x43, x44, x45, x46, x47, x48, x49, x50, x51, x52, x53, x54, x55, x56, x57, x58, x59, x60, x61, x62, x63, x64, x65, x66, x67, x68, x69, x70, x71, x72, x73, x74, x75, x76, x77, x78, x79, x80, x81, x82, x83, x84, x85, u86, u87, u88, u89, u90, u91, u92, u93, u94, u95, x96, x97, x98, x99, x100, x101, x102, x103, x104, x105, x106, x107, x108, x109, x110, x111, x112, x113, x114, x115, x116, x117, x118, x119, x120, x121, x122, x123, x124, x125, x126, x127, x128, x129, x130, x131, x132, x133, x134, x135, x136, x137, x138, x139, x140, x141, x142, x143, x144, x145, x146, x147, x148, x149, x150, x151, x152, x153, x154, x155, x156, x157, x158, x159, x160, x161, x162, x163, x164, x165, x166, x167, x168, x169, x170, x171, x172, x173, x174, x175, x176, x177, x178, x179, x180, x181, x182, x183, x184, x185, x186, x187, x188, x189, x190, x191, x192, x193, x194, x195, x196, x197, x198, x199, x200, x201, x202, x203, x204, x205, x206, x207, x208, x209, x210, x211, x212, x213, x214, x215, x216, x217, x218, x219, x220, x221, x222, x223, x224, x225, x226, x227, x228, x229, x230, x231, x232, x233, x234, x235, x236, x237, x238, x239, x240, x241, x242, x243, x244, x245, x246, x247, x248, x249, x250, x251, x252], defers := [] } w') :
    Code.wp Try.prog (headC (tailC 2 (thenC (tailC 1 (headO 7 Try.f6.body))))) (Exit.then K' Q') { tmps := #[.slice A n cap, x1, x2, x3, x4, x5, x6, x7, .int .i64 (k : Int), x9, x10, x11, x12, x13, x14, x15, x16, x17, x18, x19, x20, x21, x22, x23, x24, x25, x26, x27, x28, x29, x30, x31, x32, x33, x34, x35, x36, x37, x38, x39, x40, x41, x42, x43, x44, x45, x46, x47, x48, x49, x50, x51, x52, x53, x54, x55, x56, x57, x58, x59, x60, x61, x62, x63, x64, x65, x66, x67, x68, x69, x70, x71, x72, x73, x74, x75, x76, x77, x78, x79, x80, x81, x82, x83, x84, x85, x86, x87, x88, x89, x90, x91, x92, x93, x94, x95, x96, x97, x98, x99, x100, x101, x102, x103, x104, x105, x106, x107, x108, x109, x110, x111, x112, x113, x114, x115, x116, x117, x118, x119, x120, x121, x122, x123, x124, x125, x126, x127, x128, x129, x130, x131, x132, x133, x134, x135, x136, x137, x138, x139, x140, x141, x142, x143, x144, x145, x146, x147, x148, x149, x150, x151, x152, x153, x154, x155, x156, x157, x158, x159, x160, x161, x162, x163, x164, x165, x166, x167, x168, x169, x170, x171, x172, x173, x174, x175, x176, x177, x178, x179, x180, x181, x182, x183, x184, x185, x186, x187, x188, x189, x190, x191, x192, x193, x194, x195, x196, x197, x198, x199, x200, x201, x202, x203, x204, x205, x206, x207, x208, x209, x210, x211, x212, x213, x214, x215, x216, x217, x218, x219, x220, x221, x222, x223, x224, x225, x226, x227, x228, x229, x230, x231, x232, x233, x234, x235, x236, x237, x238, x239, x240, x241, x242, x243, x244, x245, x246, x247, x248, x249, x250, x251, x252], defers := [] } w3 := by
  have HKQ := Lib.hid hK
  have HB3 := Lib.hid hb3
  obtain ⟨P, hP, hrd, hrs⟩ := pcl_reads hn hc
  have hPl : P.length = n := by rw [← hn, ← hP, List.length_map]
  have HDP : Hid ((drp P k).length = n - 1) := Lib.hid (by rw [drp_len P k (by omega), hPl])
  have hone := pcv_one P (fun y hy => by obtain ⟨A, c, e, _⟩ := hrs y hy; exact ⟨A, _, c, e⟩)
  have HONE1 : Hid (∀ u ∈ (P.take k).flatMap pcv, u.oneCell' = true) := Lib.hid (fun u hu => hone u (by obtain ⟨y, hy, h⟩ := List.mem_flatMap.1 hu; exact List.mem_flatMap.2 ⟨y, List.mem_of_mem_take hy, h⟩))
  have HONE2 : Hid (∀ u ∈ (P.drop (k + 1)).flatMap pcv, u.oneCell' = true) := Lib.hid (fun u hu => hone u (by obtain ⟨y, hy, h⟩ := List.mem_flatMap.1 hu; exact List.mem_flatMap.2 ⟨y, List.mem_of_mem_drop hy, h⟩))
  have rp0 := reads_pre hrd (show k ≤ n by omega)
  rw [(flat_cut P (by omega)).1] at rp0
  have rq0 := hrd.cut (show k + 1 ≤ n by omega) hcap
  rw [(flat_cut P (by omega)).2] at rq0
  have HP := Lib.hid hP
  have HRS := Lib.hid hrs
  have HRP0 := Lib.hid rp0
  have HRQ0 := Lib.hid rq0
  clear hrd hrs rp0 rq0 hone hPl hP
  have N3 := Lib.hid (show 0 + k ≤ maxLen from by simp only [maxLen]; omega)
  have N4 := Lib.hid (show (0 + k) * 56 ≤ 140737488355328 from by omega)
  have N7 := Lib.hid (show k + (n - (k + 1)) ≤ maxLen from by simp only [maxLen]; omega)
  have N8 := Lib.hid (show (k + (n - (k + 1))) * 56 ≤ 140737488355328 from by omega)
  have NP := Lib.hid (show k + (n - (k + 1)) = n - 1 by omega)
  obtain ⟨i0, hi0, hz0, hz1, hz2⟩ := info_parts' infoP
  have k0 : (0 : Int) ≤ (k : Int) := by omega
  have k1 : (k : Int) < (n : Int) := by omega
  have k2 : (k : Int) ≤ (n : Int) := by omega
  have k3 : (k : Int) ≤ (cap : Int) := by omega
  have k4 : (k : Int) + 1 ≤ (n : Int) := by omega
  have k5 : (0 : Int) ≤ (k : Int) + 1 := by omega
  have k6 : ((k : Int) + 1).toNat = k + 1 := by omega
  have hwk : IntKind.i64.wrap ((k : Int) + 1) = (k : Int) + 1 := IntWalk.i64_in _ (by omega)
  have HRP := Lib.hid ((HRP0.out.below HB3.out).more HB3.out.size)
  have HRQ := Lib.hid ((HRQ0.out.below HB3.out).more HB3.out.size)
  have HSS := Lib.hid (show Below w3.heap.size w3 w3.drew from (Below.refl _ _).drew)
  clear hn hc hK hb3 HRP0 HRQ0
  conv => arg 2; whnf
  by_cases hck : cap = k + 1
  all_goals
    first | (have HRQ1 := Lib.hid (by have h := HRQ.out; rw [if_pos hck] at h; exact h)) | (have HRQ1 := Lib.hid (by have h := HRQ.out; rw [if_neg hck] at h; exact h))
    first | (have hcp4 : (cap = k + 1) = True := eq_true hck) | (have hcp4 : (cap = k + 1) = False := eq_false hck)
    clear hck
    go_region_held3 (fun W' : World => Below w3.heap.size w3 W')
      (first | assumption | exact HSS.out | exact hBk | exact hBk2 | exact Gen.b_alloc (by assumption) | fail "keep")
      (first
        | (refine App.step_append_any _ (by rfl) (.tmp 86) (.tmp 89) _ (by rfl) w3.heap.size 36 i0 _ 5 56 Try.underlying22 hi0 hz0 hz1 hz2 rfl (by omega) (.slice (some ⟨_, 0, none⟩) 0 0) 0 [] rfl (own_empty (by first | exact Row.new _ _ _ | exact Gen.rowAtD _ _ _ (by simp) | exact Gen.rowAt _ _ _ (by simp) | exact (Gen.rowAt _ _ _ (by simp)).alloc _) (by first | omega | (simp; done) | (simp; omega) | exact Below.size (by assumption))) _ _ k _ _ rfl (HRP.out.below (by assumption)) HONE1.out N3.out N4.out (Below.size (by assumption)) ?_; intro v7 w7 ho7 hg7 ha7; rw [List.nil_append, Nat.zero_add] at ho7; have hBk : Below w3.heap.size w3 w7 := Below.grown (by assumption) hg7 (Below.size (by assumption)) (fun q hq => by simp [Value.ownBlock] at hq <;> omega); obtain ⟨A7, c7, hv7, _⟩ := Gen.own_slice ho7; subst hv7)
        | (refine App.step_append_any _ (by rfl) (.tmp 90) (.tmp 94) _ (by rfl) w3.heap.size 36 i0 _ 5 56 Try.underlying22 hi0 hz0 hz1 hz2 rfl (by omega) (.slice A7 k c7) k _ rfl (by first | exact ho7 | exact ho7.alloc _) _ _ (n - (k + 1)) _ _ rfl (HRQ1.out.below (by assumption)) HONE2.out N7.out N8.out (Below.size (by assumption)) ?_; intro v9 w9' ho9 hg9 ha9; have hBk2 : Below w3.heap.size w3 w9' := Below.grown (by assumption) hg9 (Below.size (by assumption)) (fun q hq => (ho7.lt q hq).1); rw [NP.out] at ho9; obtain ⟨A9, c9, hv9, _⟩ := Gen.own_slice ho9; subst hv9)
        | fail "arm")
    all_goals
      rw [← List.flatMap_append] at ho9
      have hm9 : Pcl w9' A9 (drp l k) := by
        rw [← drp_map HP.out]
        exact pcl_own ho9 HDP.out (hrs_keep HRS.out (Gen.over hBk2 HB3.out) k)
      clear ho9 hg9 ha9 ho7 hg7 ha7
      go_wp2
      exact HKQ.out _ _ _ _ _ _ _ _ _ _ _ _ _ hBk2 hm9
set_option maxRecDepth 100000 in
set_option maxHeartbeats 16000000 in
theorem md_pre1 {K' : Act → World → Prop} (hr : Row wx gx 27 #[.int .i64 kq, .int .i64 (p : Int), .int .i64 co, .int .i64 wh, .int .i64 d]) (hn : l.length = n) (hc : Pcl wx A l) (hn12 : n ≤ 12) (hcap : n ≤ cap) (hp : p < n) (hk : k < n) (hkp : k ≠ p) (hlt : k < p) (hrest : ∀ (W4 : World) (A6 : Option Addr) (c6 : Nat) (u14 u15 u16 u18 u19 u20 u21 u22 u23 u24 u25 u26 u27 u28 u29 u30 u31 u32 u33 u34 u35 u36 u37 u38 u39 u40 u41 u42 u43 u44 u45 u46 u47 u48 u49 u50 u51 u52 u53 u54 u55 u56 u57 u58 u59 u60 u61 u62 u63 u64 u65 u66 u67 u68 u69 u70 u71 u72 u73 u74 u75 u76 u77 u78 u79 u80 u81 u82 u83 u84 u85 u86 u87 u88 u89 u90 u91 u92 u93 u94 u95 u96 u97 u98 u99 u100 u101 u102 u103 u104 u105 u106 u107 u108 u109 u110 u111 u112 u113 u114 u115 u116 u117 u118 u119 u120 u121 u122 u123 u124 u125 u126 u127 u128 u129 u130 u131 u132 u133 u134 u135 u136 u137 u138 u139 u140 u141 u142 u143 u144 u145 u146 u147 u148 u149 u150 u151 u152 u153 u154 u155 u156 u157 u158 u159 u160 u161 u162 u163 u164 u165 u166 u167 u168 u169 u170 u171 u172 u173 u174 u175 u176 u177 u178 u179 u180 u181 u182 u183 u184 u185 u186 u187 u188 u189 u190 u191 u192 u193 u194 u195 u196 u197 u198 u199 u200 u201 u202 u203 u204 u205 u206 u207 u208 u209 u210 u211 u212 u213 u214 u215 u216 u217 u218 u219 u220 u221 u222 u223 u224 u225 u226 u227 u228 u229 u230 u231 u232 u233 u234 u235 u236 u237 u238 u239 u240 u241 u242 u243 u244 u245 u246 u247 u248 u249 u250 u251 u252 : Value), Below wx.heap.size wx W4 → Row W4 wx.heap.size 27 #[.int .i64 kq, .int .i64 ((sft k p : Nat) : Int), .int .i64 co, .int .i64 wh, .int .i64 d] → Pcl W4 A6 (drp l k) → Code.wp Try.prog (tailC 3 (thenC (tailC 1 (headO 7 Try.f6.body)))) (Exit.then K' (bodyPost Try.prog Try.f6 fun e w' => e = .returned (.bool true) ∧ Below w.heap.size w w')) { tmps := #[.slice A n cap, x1, x2, x3, .pointer (some ⟨gx, 0, none⟩), x5, x6, .bool true, .int .i64 (k : Int), x9, x10, x11, .pointer (some ⟨wx.heap.size, 0, none⟩), .slice A6 (n - 1) c6, u14, u15, u16, x17, u18, u19, u20, u21, u22, u23, u24, u25, u26, u27, u28, u29, u30, u31, u32, u33, u34, u35, u36, u37, u38, u39, u40, u41, u42, u43, u44, u45, u46, u47, u48, u49, u50, u51, u52, u53, u54, u55, u56, u57, u58, u59, u60, u61, u62, u63, u64, u65, u66, u67, u68, u69, u70, u71, u72, u73, u74, u75, u76, u77, u78, u79, u80, u81, u82, u83, u84, u85, u86, u87, u88, u89, u90, u91, u92, u93, u94, u95, u96, u97, u98, u99, u100, u101, u102, u103, u104, u105, u106, u107, u108, u109, u110, u111, u112, u113, u114, u115, u116, u117, u118, u119, u120, u121, u122, u123, u124, u125, u126, u127, u128, u129, u130, u131, u132, u133, u134, u135, u136, u137, u138, u139, u140, u141, u142, u143, u144, u145, u146, u147, u148, u149, u150, u151, u152, u153, u154, u155, u156, u157, u158, u159, u160, u161, u162, u163, u164, u165, u166, u167, u168, u169, u170, u171, u172, u173, u174, u175, u176, u177, u178, u179, u180, u181, u182, u183, u184, u185, u186, u187, u188, u189, u190, u191, u192, u193, u194, u195, u196, u197, u198, u199, u200, u201, u202, u203, u204, u205, u206, u207, u208, u209, u210, u211, u212, u213, u214, u215, u216, u217, u218, u219, u220, u221, u222, u223, u224, u225, u226, u227, u228, u229, u230, u231, u232, u233, u234, u235, u236, u237, u238, u239, u240, u241, u242, u243, u244, u245, u246, u247, u248, u249, u250, u251, u252], defers := [] } W4) :
    Code.wp Try.prog (headO 7 Try.f6.body) (Exit.then K' (bodyPost Try.prog Try.f6 fun e w' => e = .returned (.bool true) ∧ Below w.heap.size w w')) { tmps := #[.slice A n cap, x1, x2, x3, .pointer (some ⟨gx, 0, none⟩), x5, x6, .bool true, .int .i64 (k : Int), x9, x10, x11, x12, x13, x14, x15, x16, x17, x18, x19, x20, x21, x22, x23, x24, x25, x26, x27, x28, x29, x30, x31, x32, x33, x34, x35, x36, x37, x38, x39, x40, x41, x42, x43, x44, x45, x46, x47, x48, x49, x50, x51, x52, x53, x54, x55, x56, x57, x58, x59, x60, x61, x62, x63, x64, x65, x66, x67, x68, x69, x70, x71, x72, x73, x74, x75, x76, x77, x78, x79, x80, x81, x82, x83, x84, x85, x86, x87, x88, x89, x90, x91, x92, x93, x94, x95, x96, x97, x98, x99, x100, x101, x102, x103, x104, x105, x106, x107, x108, x109, x110, x111, x112, x113, x114, x115, x116, x117, x118, x119, x120, x121, x122, x123, x124, x125, x126, x127, x128, x129, x130, x131, x132, x133, x134, x135, x136, x137, x138, x139, x140, x141, x142, x143, x144, x145, x146, x147, x148, x149, x150, x151, x152, x153, x154, x155, x156, x157, x158, x159, x160, x161, x162, x163, x164, x165, x166, x167, x168, x169, x170, x171, x172, x173, x174, x175, x176, x177, x178, x179, x180, x181, x182, x183, x184, x185, x186, x187, x188, x189, x190, x191, x192, x193, x194, x195, x196, x197, x198, x199, x200, x201, x202, x203, x204, x205, x206, x207, x208, x209, x210, x211, x212, x213, x214, x215, x216, x217, x218, x219, x220, x221, x222, x223, x224, x225, x226, x227, x228, x229, x230, x231, x232, x233, x234, x235, x236, x237, x238, x239, x240, x241, x242, x243, x244, x245, x246, x247, x248, x249, x250, x251, x252], defers := [] } wx := by
  have HREST := Lib.hid hrest
  have HN := Lib.hid hn
  have HC := Lib.hid hc
  clear hrest
  have r0 := hr.cell 0
  have r1 := hr.cell 1
  have r2 := hr.cell 2
  have r3 := hr.cell 3
  have r4 := hr.cell 4
  have hwp : IntKind.i64.wrap ((p : Int) - 1) = (p : Int) - 1 := IntWalk.i64_in _ (by omega)
  have hkpI : ¬ (k : Int) = (p : Int) := by omega
  clear hn hc hr hkp
  conv => arg 2; whnf
  have hltI : (k : Int) < (p : Int) := by omega
  go_upto_region 11 with (fail)
  have q1 := Gen.keep (Gen.b_alloc (x := .cells #[.int .i64 kq, .int .i64 (p : Int), .int .i64 co, .int .i64 wh, .int .i64 d] 27) (Below.refl _ _)) r1
  go_upto_region 13 with (fail)
  clear r0 r1 r2 r3 r4 q1
  have HR3 : Hid (Row (wx.alloc (.cells #[.int .i64 kq, .int .i64 ((p : Int) - 1), .int .i64 co, .int .i64 wh, .int .i64 d] 27)) wx.heap.size 27 #[.int .i64 kq, .int .i64 ((sft k p : Nat) : Int), .int .i64 co, .int .i64 wh, .int .i64 d]) := Lib.hid (by
    have h := Row.new wx 27 #[.int .i64 kq, .int .i64 ((p : Int) - 1), .int .i64 co, .int .i64 wh, .int .i64 d]
    have e : ((sft k p : Nat) : Int) = (p : Int) - 1 := by unfold sft; rw [if_pos hlt]; omega
    rw [e]
    exact h)
  have HB3 := Lib.hid (show Below wx.heap.size wx (wx.alloc (.cells #[.int .i64 kq, .int .i64 ((p : Int) - 1), .int .i64 co, .int .i64 wh, .int .i64 d] 27)) from Gen.b_alloc (Below.refl _ _))
  generalize wx.alloc (.cells #[.int .i64 kq, .int .i64 ((p : Int) - 1), .int .i64 co, .int .i64 wh, .int .i64 d] 27) = W3 at *
  clear hlt hltI
  go_cut [13] (fun c wx => ∃ A6 c6, c = .slice A6 (n - 1) c6 ∧ Hid (Below W3.heap.size W3 wx) ∧ Hid (Pcl wx A6 (drp l k)))
  case first =>
    rename_i J' K' hJ hM
    refine md_13 HB3.out HN.out HC.out hn12 hcap hk (fun A6 c6 u86 u87 u88 u89 u90 u91 u92 u93 u94 u95 w' h1 h2 => hM _ _ (Met.intro (hJ _ _ ?_)))
    (repeat apply Exists.intro)
    exact ⟨⟨_, _, rfl, Lib.hid h1, Lib.hid h2⟩, rfl⟩
  case rest =>
    obtain ⟨A6, c6, rfl, HB6, HP6⟩ := hcut
    rename_i K hK
    apply hK
    exact HREST.out _ _ _ _ _ _ _ _ _ _ _ _ _ _ _ _ _ _ _ _ _ _ _ _ _ _ _ _ _ _ _ _ _ _ _ _ _ _ _ _ _ _ _ _ _ _ _ _ _ _ _ _ _ _ _ _ _ _ _ _ _ _ _ _ _ _ _ _ _ _ _ _ _ _ _ _ _ _ _ _ _ _ _ _ _ _ _ _ _ _ _ _ _ _ _ _ _ _ _ _ _ _ _ _ _ _ _ _ _ _ _ _ _ _ _ _ _ _ _ _ _ _ _ _ _ _ _ _ _ _ _ _ _ _ _ _ _ _ _ _ _ _ _ _ _ _ _ _ _ _ _ _ _ _ _ _ _ _ _ _ _ _ _ _ _ _ _ _ _ _ _ _ _ _ _ _ _ _ _ _ _ _ _ _ _ _ _ _ _ _ _ _ _ _ _ _ _ _ _ _ _ _ _ _ _ _ _ _ _ _ _ _ _ _ _ _ _ _ _ _ _ _ _ _ _ _ _ _ _ _ _ _ _ _ _ _ _ _ _ _ _ (Gen.over HB6.out HB3.out) (HR3.out.keep HB6.out) HP6.out
set_option maxRecDepth 100000 in
set_option maxHeartbeats 16000000 in
theorem md_pre2 {K' : Act → World → Prop} (hr : Row wx gx 27 #[.int .i64 kq, .int .i64 (p : Int), .int .i64 co, .int .i64 wh, .int .i64 d]) (hn : l.length = n) (hc : Pcl wx A l) (hn12 : n ≤ 12) (hcap : n ≤ cap) (hp : p < n) (hk : k < n) (hkp : k ≠ p) (hlt : ¬ k < p) (hrest : ∀ (W4 : World) (A6 : Option Addr) (c6 : Nat) (u14 u15 u16 u18 u19 u20 u21 u22 u23 u24 u25 u26 u27 u28 u29 u30 u31 u32 u33 u34 u35 u36 u37 u38 u39 u40 u41 u42 u43 u44 u45 u46 u47 u48 u49 u50 u51 u52 u53 u54 u55 u56 u57 u58 u59 u60 u61 u62 u63 u64 u65 u66 u67 u68 u69 u70 u71 u72 u73 u74 u75 u76 u77 u78 u79 u80 u81 u82 u83 u84 u85 u86 u87 u88 u89 u90 u91 u92 u93 u94 u95 u96 u97 u98 u99 u100 u101 u102 u103 u104 u105 u106 u107 u108 u109 u110 u111 u112 u113 u114 u115 u116 u117 u118 u119 u120 u121 u122 u123 u124 u125 u126 u127 u128 u129 u130 u131 u132 u133 u134 u135 u136 u137 u138 u139 u140 u141 u142 u143 u144 u145 u146 u147 u148 u149 u150 u151 u152 u153 u154 u155 u156 u157 u158 u159 u160 u161 u162 u163 u164 u165 u166 u167 u168 u169 u170 u171 u172 u173 u174 u175 u176 u177 u178 u179 u180 u181 u182 u183 u184 u185 u186 u187 u188 u189 u190 u191 u192 u193 u194 u195 u196 u197 u198 u199 u200 u201 u202 u203 u204 u205 u206 u207 u208 u209 u210 u211 u212 u213 u214 u215 u216 u217 u218 u219 u220 u221 u222 u223 u224 u225 u226 u227 u228 u229 u230 u231 u232 u233 u234 u235 u236 u237 u238 u239 u240 u241 u242 u243 u244 u245 u246 u247 u248 u249 u250 u251 u252 : Value), Below wx.heap.size wx W4 → Row W4 wx.heap.size 27 #[.int .i64 kq, .int .i64 ((sft k p : Nat) : Int), .int .i64 co, .int .i64 wh, .int .i64 d] → Pcl W4 A6 (drp l k) → Code.wp Try.prog (tailC 3 (thenC (tailC 1 (headO 7 Try.f6.body)))) (Exit.then K' (bodyPost Try.prog Try.f6 fun e w' => e = .returned (.bool true) ∧ Below w.heap.size w w')) { tmps := #[.slice A n cap, x1, x2, x3, .pointer (some ⟨gx, 0, none⟩), x5, x6, .bool true, .int .i64 (k : Int), x9, x10, x11, .pointer (some ⟨wx.heap.size, 0, none⟩), .slice A6 (n - 1) c6, u14, u15, u16, x17, u18, u19, u20, u21, u22, u23, u24, u25, u26, u27, u28, u29, u30, u31, u32, u33, u34, u35, u36, u37, u38, u39, u40, u41, u42, u43, u44, u45, u46, u47, u48, u49, u50, u51, u52, u53, u54, u55, u56, u57, u58, u59, u60, u61, u62, u63, u64, u65, u66, u67, u68, u69, u70, u71, u72, u73, u74, u75, u76, u77, u78, u79, u80, u81, u82, u83, u84, u85, u86, u87, u88, u89, u90, u91, u92, u93, u94, u95, u96, u97, u98, u99, u100, u101, u102, u103, u104, u105, u106, u107, u108, u109, u110, u111, u112, u113, u114, u115, u116, u117, u118, u119, u120, u121, u122, u123, u124, u125, u126, u127, u128, u129, u130, u131, u132, u133, u134, u135, u136, u137, u138, u139, u140, u141, u142, u143, u144, u145, u146, u147, u148, u149, u150, u151, u152, u153, u154, u155, u156, u157, u158, u159, u160, u161, u162, u163, u164, u165, u166, u167, u168, u169, u170, u171, u172, u173, u174, u175, u176, u177, u178, u179, u180, u181, u182, u183, u184, u185, u186, u187, u188, u189, u190, u191, u192, u193, u194, u195, u196, u197, u198, u199, u200, u201, u202, u203, u204, u205, u206, u207, u208, u209, u210, u211, u212, u213, u214, u215, u216, u217, u218, u219, u220, u221, u222, u223, u224, u225, u226, u227, u228, u229, u230, u231, u232, u233, u234, u235, u236, u237, u238, u239, u240, u241, u242, u243, u244, u245, u246, u247, u248, u249, u250, u251, u252], defers := [] } W4) :
    Code.wp Try.prog (headO 7 Try.f6.body) (Exit.then K' (bodyPost Try.prog Try.f6 fun e w' => e = .returned (.bool true) ∧ Below w.heap.size w w')) { tmps := #[.slice A n cap, x1, x2, x3, .pointer (some ⟨gx, 0, none⟩), x5, x6, .bool true, .int .i64 (k : Int), x9, x10, x11, x12, x13, x14, x15, x16, x17, x18, x19, x20, x21, x22, x23, x24, x25, x26, x27, x28, x29, x30, x31, x32, x33, x34, x35, x36, x37, x38, x39, x40, x41, x42, x43, x44, x45, x46, x47, x48, x49, x50, x51, x52, x53, x54, x55, x56, x57, x58, x59, x60, x61, x62, x63, x64, x65, x66, x67, x68, x69, x70, x71, x72, x73, x74, x75, x76, x77, x78, x79, x80, x81, x82, x83, x84, x85, x86, x87, x88, x89, x90, x91, x92, x93, x94, x95, x96, x97, x98, x99, x100, x101, x102, x103, x104, x105, x106, x107, x108, x109, x110, x111, x112, x113, x114, x115, x116, x117, x118, x119, x120, x121, x122, x123, x124, x125, x126, x127, x128, x129, x130, x131, x132, x133, x134, x135, x136, x137, x138, x139, x140, x141, x142, x143, x144, x145, x146, x147, x148, x149, x150, x151, x152, x153, x154, x155, x156, x157, x158, x159, x160, x161, x162, x163, x164, x165, x166, x167, x168, x169, x170, x171, x172, x173, x174, x175, x176, x177, x178, x179, x180, x181, x182, x183, x184, x185, x186, x187, x188, x189, x190, x191, x192, x193, x194, x195, x196, x197, x198, x199, x200, x201, x202, x203, x204, x205, x206, x207, x208, x209, x210, x211, x212, x213, x214, x215, x216, x217, x218, x219, x220, x221, x222, x223, x224, x225, x226, x227, x228, x229, x230, x231, x232, x233, x234, x235, x236, x237, x238, x239, x240, x241, x242, x243, x244, x245, x246, x247, x248, x249, x250, x251, x252], defers := [] } wx := by
  have HREST := Lib.hid hrest
  have HN := Lib.hid hn
  have HC := Lib.hid hc
  clear hrest
  have r0 := hr.cell 0
  have r1 := hr.cell 1
  have r2 := hr.cell 2
  have r3 := hr.cell 3
  have r4 := hr.cell 4
  have hwp : IntKind.i64.wrap ((p : Int) - 1) = (p : Int) - 1 := IntWalk.i64_in _ (by omega)
  have hkpI : ¬ (k : Int) = (p : Int) := by omega
  clear hn hc hr hkp
  conv => arg 2; whnf
  have hltI : ¬ (k : Int) < (p : Int) := by omega
  go_upto_region 11 with (fail)
  have q1 := Gen.keep (Gen.b_alloc (x := .cells #[.int .i64 kq, .int .i64 (p : Int), .int .i64 co, .int .i64 wh, .int .i64 d] 27) (Below.refl _ _)) r1
  go_upto_region 13 with (fail)
  clear r0 r1 r2 r3 r4 q1
  have HR3 : Hid (Row (wx.alloc (.cells #[.int .i64 kq, .int .i64 (p : Int), .int .i64 co, .int .i64 wh, .int .i64 d] 27)) wx.heap.size 27 #[.int .i64 kq, .int .i64 ((sft k p : Nat) : Int), .int .i64 co, .int .i64 wh, .int .i64 d]) := Lib.hid (by
    have h := Row.new wx 27 #[.int .i64 kq, .int .i64 (p : Int), .int .i64 co, .int .i64 wh, .int .i64 d]
    have e : (p : Int) = ((sft k p : Nat) : Int) := by unfold sft; rw [if_neg hlt]
    rw [← e]
    exact h)
  have HB3 := Lib.hid (show Below wx.heap.size wx (wx.alloc (.cells #[.int .i64 kq, .int .i64 (p : Int), .int .i64 co, .int .i64 wh, .int .i64 d] 27)) from Gen.b_alloc (Below.refl _ _))
  generalize wx.alloc (.cells #[.int .i64 kq, .int .i64 (p : Int), .int .i64 co, .int .i64 wh, .int .i64 d] 27) = W3 at *
  clear hlt hltI
  go_cut [13] (fun c wx => ∃ A6 c6, c = .slice A6 (n - 1) c6 ∧ Hid (Below W3.heap.size W3 wx) ∧ Hid (Pcl wx A6 (drp l k)))
  case first =>
    rename_i J' K' hJ hM
    refine md_13 HB3.out HN.out HC.out hn12 hcap hk (fun A6 c6 u86 u87 u88 u89 u90 u91 u92 u93 u94 u95 w' h1 h2 => hM _ _ (Met.intro (hJ _ _ ?_)))
    (repeat apply Exists.intro)
    exact ⟨⟨_, _, rfl, Lib.hid h1, Lib.hid h2⟩, rfl⟩
  case rest =>
    obtain ⟨A6, c6, rfl, HB6, HP6⟩ := hcut
    rename_i K hK
    apply hK
    exact HREST.out _ _ _ _ _ _ _ _ _ _ _ _ _ _ _ _ _ _ _ _ _ _ _ _ _ _ _ _ _ _ _ _ _ _ _ _ _ _ _ _ _ _ _ _ _ _ _ _ _ _ _ _ _ _ _ _ _ _ _ _ _ _ _ _ _ _ _ _ _ _ _ _ _ _ _ _ _ _ _ _ _ _ _ _ _ _ _ _ _ _ _ _ _ _ _ _ _ _ _ _ _ _ _ _ _ _ _ _ _ _ _ _ _ _ _ _ _ _ _ _ _ _ _ _ _ _ _ _ _ _ _ _ _ _ _ _ _ _ _ _ _ _ _ _ _ _ _ _ _ _ _ _ _ _ _ _ _ _ _ _ _ _ _ _ _ _ _ _ _ _ _ _ _ _ _ _ _ _ _ _ _ _ _ _ _ _ _ _ _ _ _ _ _ _ _ _ _ _ _ _ _ _ _ _ _ _ _ _ _ _ _ _ _ _ _ _ _ _ _ _ _ _ _ _ _ _ _ _ _ _ _ _ _ _ _ _ _ _ _ _ _ (Gen.over HB6.out HB3.out) (HR3.out.keep HB6.out) HP6.out
end
end Go.Proofs.Ythphlaijkknefaa.Bea
