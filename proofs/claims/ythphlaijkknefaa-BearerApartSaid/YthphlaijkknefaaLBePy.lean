/- BearerApart: without the piece, done. -/
import Derived.Test.YthphlaijkknefaaLBePb
import Derived.Test.YthphlaijkknefaaLBeT
namespace Go.Proofs.Ythphlaijkknefaa.Bea
open Go.ChangeShapes Go.WideShapes Go.ChangeAt Go.RowKit Go.Proofs.Ythphlaijkknefaa.Cell
set_option linter.unusedVariables false
set_option linter.unusedSimpArgs false
section
variable {w wx : World} {A : Option Addr} {n cap g2 c2 gx p k : Nat} {l : List Pc} {kq co wh d E N : Int} {x2 : Value}
variable {x0 x1 x3 x4 x5 x6 x7 x8 x9 x10 x11 x12 x13 x14 x15 x16 x17 x18 x19 x20 x21 x22 x23 x24 x25 x26 x27 x28 x29 x30 x31 x32 x33 x34 x35 x36 x37 x38 x39 x40 x41 x42 x43 x44 x45 x46 x47 x48 x49 x50 x51 x52 x53 x54 x55 x56 x57 x58 x59 x60 x61 x62 x63 x64 x65 x66 x67 x68 x69 x70 x71 x72 x73 x74 x75 x76 x77 x78 x79 x80 x81 x82 x83 x84 x85 x86 x87 x88 x89 x90 x91 x92 x93 x94 x95 x96 x97 x98 x99 x100 x101 x102 x103 x104 x105 x106 x107 x108 x109 x110 x111 x112 x113 x114 x115 x116 x117 x118 x119 x120 x121 x122 x123 x124 x125 x126 x127 x128 x129 x130 x131 x132 x133 x134 x135 x136 x137 x138 x139 x140 x141 x142 x143 x144 x145 x146 x147 x148 x149 x150 x151 x152 x153 x154 x155 x156 x157 x158 x159 x160 x161 x162 x163 x164 x165 x166 x167 x168 x169 x170 x171 x172 x173 x174 x175 x176 x177 x178 x179 x180 x181 x182 x183 x184 x185 x186 x187 x188 x189 x190 x191 x192 x193 x194 x195 x196 x197 x198 x199 x200 x201 x202 x203 x204 x205 x206 x207 x208 x209 x210 x211 x212 x213 x214 x215 x216 x217 x218 x219 x220 x221 x222 x223 x224 x225 x226 x227 x228 x229 x230 x231 x232 x233 x234 x235 x236 x237 x238 x239 x240 x241 x242 x243 x244 x245 x246 x247 x248 x249 x250 x251 x252 : Value}
set_option maxRecDepth 100000 in
set_option maxHeartbeats 16000000 in
theorem md_yes {gy c6 : Nat} {A6 : Option Addr} {w4 : World} {K' : Act → World → Prop} (hK : ∀ (u12 u13 u14 u15 u16 u18 u19 u20 u21 u22 u23 u24 u25 u26 u27 u28 u29 u30 u31 u32 u33 u34 u35 u36 u37 u38 u39 u40 u41 u42 u43 u44 u45 u46 u47 u48 u49 u50 u51 u52 u53 u54 u55 u56 u57 u58 u59 u60 u61 u62 u63 u64 u65 u66 u67 u68 u69 u70 u71 u72 u73 u74 u75 u76 u77 u78 u79 u80 u81 u82 u83 u84 u85 u86 u87 u88 u89 u90 u91 u92 u93 u94 u95 u96 u97 u98 u99 u100 u101 u102 u103 u104 u105 u106 u107 u108 u109 u110 u111 u112 u113 u114 u115 u116 u117 u118 u119 u120 u121 u122 u123 u124 u125 u126 u127 u128 u129 u130 u131 u132 u133 u134 u135 u136 u137 u138 u139 u140 u141 u142 u143 u144 u145 u146 u147 u148 u149 u150 u151 u152 u153 u154 u155 u156 u157 u158 u159 u160 u161 u162 u163 u164 u165 u166 u167 u168 u169 u170 u171 u172 u173 u174 u175 u176 u177 u178 u179 u180 u181 u182 u183 u184 u185 u186 u187 u188 u189 u190 u191 u192 u193 u194 u195 u196 u197 u198 u199 u200 u201 u202 u203 u204 u205 u206 u207 u208 u209 u210 u211 u212 u213 u214 u215 u216 u217 u218 u219 u220 u221 u222 u223 u224 u225 u226 u227 u228 u229 u230 u231 u232 u233 u234 u235 u236 u237 u238 u239 u240 u241 u242 u243 u244 u245 u246 u247 u248 u249 u250 u251 u252 : Value) (w' : World), Below wx.heap.size wx w' → K' { tmps := #[.slice A n cap, x1, x2, x3, .pointer (some ⟨gx, 0, none⟩), x5, x6, .bool true, .int .i64 (k : Int), .slice (some ⟨g2, 0, none⟩) n c2, .int .i64 N, .int .i64 0, u12, u13, u14, u15, u16, x17, u18, u19, u20, u21, u22, u23, u24, u25, u26, u27, u28, u29, u30, u31, u32, u33, u34, u35, u36, u37, u38, u39, u40, u41, u42, u43, u44, u45, u46, u47, u48, u49, u50, u51, u52, u53, u54, u55, u56, u57, u58, u59, u60, u61, u62, u63, u64, u65, u66, u67, u68, u69, u70, u71, u72, u73, u74, u75, u76, u77, u78, u79, u80, u81, u82, u83, u84, u85, u86, u87, u88, u89, u90, u91, u92, u93, u94, u95, u96, u97, u98, u99, u100, u101, u102, u103, u104, u105, u106, u107, u108, u109, u110, u111, u112, u113, u114, u115, u116, u117, u118, u119, u120, u121, u122, u123, u124, u125, u126, u127, u128, u129, u130, u131, u132, u133, u134, u135, u136, u137, u138, u139, u140, u141, u142, u143, u144, u145, u146, u147, u148, u149, u150, u151, u152, u153, u154, u155, u156, u157, u158, u159, u160, u161, u162, u163, u164, u165, u166, u167, u168, u169, u170, u171, u172, u173, u174, u175, u176, u177, u178, u179, u180, u181, u182, u183, u184, u185, u186, u187, u188, u189, u190, u191, u192, u193, u194, u195, u196, u197, u198, u199, u200, u201, u202, u203, u204, u205, u206, u207, u208, u209, u210, u211, u212, u213, u214, u215, u216, u217, u218, u219, u220, u221, u222, u223, u224, u225, u226, u227, u228, u229, u230, u231, u232, u233, u234, u235, u236, u237, u238, u239, u240, u241, u242, u243, u244, u245, u246, u247, u248, u249, u250, u251, u252], defers := [] } w') (hb4 : Below wx.heap.size wx w4) (hr : Row w4 gy 27 #[.int .i64 kq, .int .i64 ((sft k p : Nat) : Int), .int .i64 co, .int .i64 wh, .int .i64 d]) (hp6 : Pcl w4 A6 (drp l k)) (hn : l.length = n) (hc : Pcl wx A l) (hv : rgtL l = true) (hn12 : n ≤ 12) (hcap : n ≤ cap) (hp : p < n) (hk : k < n) (hkp : k ≠ p) (hE : doE l ⟨kq, p, co, wh, d⟩ = 0) (hN : doN l ⟨kq, p, co, wh, d⟩ = N) (h2 : Pcl wx (some ⟨g2, 0, none⟩) (doL l ⟨kq, p, co, wh, d⟩)) (hl2 : (doL l ⟨kq, p, co, wh, d⟩).length = n) (hc2 : n ≤ c2) :
    Code.wp Try.prog (tailC 3 (thenC (tailC 1 (headO 7 Try.f6.body)))) (Exit.then K' (bodyPost Try.prog Try.f6 fun e w' => e = .returned (.bool true) ∧ Below w.heap.size w w')) { tmps := #[.slice A n cap, x1, x2, x3, .pointer (some ⟨gx, 0, none⟩), x5, x6, .bool true, .int .i64 (k : Int), .slice (some ⟨g2, 0, none⟩) n c2, .int .i64 N, .int .i64 0, .pointer (some ⟨gy, 0, none⟩), .slice A6 (n - 1) c6, x14, x15, x16, x17, x18, x19, x20, x21, x22, x23, x24, x25, x26, x27, x28, x29, x30, x31, x32, x33, x34, x35, x36, x37, x38, x39, x40, x41, x42, x43, x44, x45, x46, x47, x48, x49, x50, x51, x52, x53, x54, x55, x56, x57, x58, x59, x60, x61, x62, x63, x64, x65, x66, x67, x68, x69, x70, x71, x72, x73, x74, x75, x76, x77, x78, x79, x80, x81, x82, x83, x84, x85, x86, x87, x88, x89, x90, x91, x92, x93, x94, x95, x96, x97, x98, x99, x100, x101, x102, x103, x104, x105, x106, x107, x108, x109, x110, x111, x112, x113, x114, x115, x116, x117, x118, x119, x120, x121, x122, x123, x124, x125, x126, x127, x128, x129, x130, x131, x132, x133, x134, x135, x136, x137, x138, x139, x140, x141, x142, x143, x144, x145, x146, x147, x148, x149, x150, x151, x152, x153, x154, x155, x156, x157, x158, x159, x160, x161, x162, x163, x164, x165, x166, x167, x168, x169, x170, x171, x172, x173, x174, x175, x176, x177, x178, x179, x180, x181, x182, x183, x184, x185, x186, x187, x188, x189, x190, x191, x192, x193, x194, x195, x196, x197, x198, x199, x200, x201, x202, x203, x204, x205, x206, x207, x208, x209, x210, x211, x212, x213, x214, x215, x216, x217, x218, x219, x220, x221, x222, x223, x224, x225, x226, x227, x228, x229, x230, x231, x232, x233, x234, x235, x236, x237, x238, x239, x240, x241, x242, x243, x244, x245, x246, x247, x248, x249, x250, x251, x252], defers := [] } w4 := by
  have HKQ := Lib.hid hK
  have HDL : Hid ((drp l k).length = n - 1) := Lib.hid (by rw [drp_len l k (by omega), hn])
  have HDR : Hid (∀ x ∈ drp l k, x.pd.length ≤ 9223372036854775807) := Lib.hid (fun x hx => by have := rgt_size hv x (drp_mem hx); omega)
  have HL := Lib.hid (show k < l.length by omega)
  have HKP := Lib.hid hkp
  have HE := Lib.hid hE
  have HV := Lib.hid hv
  have HC := Lib.hid hc
  have HN := Lib.hid hn
  have HB4 := Lib.hid hb4
  have HP6 := Lib.hid hp6
  obtain ⟨xk, hxk⟩ := at_ l k (by omega)
  have HA1 : Hid (Pcl wx (some ⟨g2, k * 5, none⟩) [xk]) := Lib.hid (by
    have h := pcl_sub h2 (show (doL l ⟨kq, p, co, wh, d⟩)[k]? = some xk by rw [doL_at hkp]; exact hxk)
    simpa [add_lit'] using h)
  have L1 : Hid ([xk].length = 1) := Lib.hid rfl
  have HL1 := Lib.hid (pcl_sub hc hxk)
  have HX1 : Hid (∀ x ∈ [xk], x.pd.length ≤ 400) := Lib.hid (fun x hx => by rw [List.mem_singleton] at hx; subst hx; exact rgt_size hv _ (mem_of_at hxk))
  have HNN := Lib.hid hN
  have hNN : (N != N) = false := by simp
  have hnn : ((n : Int) != (n : Int)) = false := by simp
  obtain ⟨Pz, hPz, hrdz, hrsz⟩ := pcl_reads hl2 h2
  have hPlz : Pz.length = n := by rw [← hl2, ← hPz, List.length_map]
  have HDPz : Hid ((drp Pz k).length = n - 1) := Lib.hid (by rw [drp_len Pz k (by omega), hPlz])
  have honez := pcv_one Pz (fun y hy => by obtain ⟨A, c, e, _⟩ := hrsz y hy; exact ⟨A, _, c, e⟩)
  have HONE1z : Hid (∀ u ∈ (Pz.take k).flatMap pcv, u.oneCell' = true) := Lib.hid (fun u hu => honez u (by obtain ⟨y, hy, h⟩ := List.mem_flatMap.1 hu; exact List.mem_flatMap.2 ⟨y, List.mem_of_mem_take hy, h⟩))
  have HONE2z : Hid (∀ u ∈ (Pz.drop (k + 1)).flatMap pcv, u.oneCell' = true) := Lib.hid (fun u hu => honez u (by obtain ⟨y, hy, h⟩ := List.mem_flatMap.1 hu; exact List.mem_flatMap.2 ⟨y, List.mem_of_mem_drop hy, h⟩))
  have rp0z := reads_pre hrdz (show k ≤ n by omega)
  rw [(flat_cut Pz (by omega)).1] at rp0z
  have rq0z := hrdz.cut (show k + 1 ≤ n by omega) hc2
  rw [(flat_cut Pz (by omega)).2] at rq0z
  have HPz := Lib.hid hPz
  have HRSz := Lib.hid hrsz
  have HRP0z := Lib.hid rp0z
  have HRQ0z := Lib.hid rq0z
  clear hrdz hrsz rp0z rq0z honez hPlz hPz
  have N3 := Lib.hid (show 0 + k ≤ maxLen from by simp only [maxLen]; omega)
  have N4 := Lib.hid (show (0 + k) * 56 ≤ 140737488355328 from by omega)
  have N7 := Lib.hid (show k + (n - (k + 1)) ≤ maxLen from by simp only [maxLen]; omega)
  have N8 := Lib.hid (show (k + (n - (k + 1))) * 56 ≤ 140737488355328 from by omega)
  have NP := Lib.hid (show k + (n - (k + 1)) = n - 1 by omega)
  have k0 : (0 : Int) ≤ (k : Int) := by omega
  have k1 : (k : Int) < (n : Int) := by omega
  have k2 : (k : Int) ≤ (n : Int) := by omega
  have k3 : (k : Int) ≤ (c2 : Int) := by omega
  have k4 : (k : Int) + 1 ≤ (n : Int) := by omega
  have k5 : (0 : Int) ≤ (k : Int) + 1 := by omega
  have k6 : ((k : Int) + 1).toNat = k + 1 := by omega
  have hwk : IntKind.i64.wrap ((k : Int) + 1) = (k : Int) + 1 := IntWalk.i64_in _ (by omega)
  have k7 : (k : Int) ≤ (cap : Int) := by omega
  have k8 : (k : Int) + 1 ≤ (c2 : Int) := by omega
  have k9 : (k : Int) + 1 ≤ (cap : Int) := by omega
  have hcc1 : (c2 = k) = False := eq_false (by omega)
  have hcc2 : (cap = k) = False := eq_false (by omega)
  obtain ⟨i0, hi0, hz0, hz1, hz2⟩ := info_parts' infoP
  have HS2 : Hid (∀ x ∈ drp (doL l ⟨kq, p, co, wh, d⟩) k, x.pd.length ≤ 400) := Lib.hid (fun x hx => doL_pd (rgt_size hv) x (drp_mem hx))
  have HD2 : Hid ((drp (doL l ⟨kq, p, co, wh, d⟩) k).length = n - 1) := Lib.hid (by rw [drp_len _ k (by omega), hl2])
  clear hN h2 hl2 hxk
  have s0 := hr.cell 0
  have s1 := hr.cell 1
  have s2 := hr.cell 2
  have s3 := hr.cell 3
  have s4 := hr.cell 4
  have hn1 : n - 1 ≤ 9223372036854775807 := by omega
  clear hK hE hv hc hn hr hkp hp6 hb4
  conv => arg 2; whnf
  go_wp2_with (fail)
  go_must (refine (do_any ⟨kq, ((sft k p : Nat) : Int), co, wh, d⟩ HDL.out HP6.out HDR.out hn1).mono ?_)
  rintro e w5 hD
  clear s0 s1 s2 s3 s4
  unfold DoP at hD
  rw [doE_drp HL.out HKP.out HV.out, doN_drp HL.out HKP.out, doL_drp HL.out HKP.out, HE.out] at hD
  rcases hD with ⟨h0, _⟩ | ⟨_, v, rfl, hO⟩
  · exact absurd rfl h0
  · rw [HNN.out]
    obtain ⟨g3, c3, rfl, hp3⟩ := hO.v
    have HB5 := Lib.hid (Gen.over hO.bl HB4.out)
    have HP5 := Lib.hid hp3
    clear hp3 hO
    dsimp only
    go_upto_region 19 with (fail)
    have HRP := Lib.hid ((HRP0z.out.below HB5.out).more HB5.out.size)
    have HRQ := Lib.hid ((HRQ0z.out.below HB5.out).more HB5.out.size)
    have HSS := Lib.hid (show Below w5.heap.size w5 w5.drew from (Below.refl _ _).drew)
    by_cases hck : c2 = k + 1
    all_goals
      first | (have HRQ1 := Lib.hid (by have h := HRQ.out; rw [if_pos hck] at h; exact h)) | (have HRQ1 := Lib.hid (by have h := HRQ.out; rw [if_neg hck, show Option.map (fun x => x.add ((k + 1) * 5)) (some (⟨g2, 0, none⟩ : Addr)) = some ⟨g2, (k + 1) * 5, none⟩ by simp [add_lit']] at h; exact h))
      first | (have hcp4 : (c2 = k + 1) = True := eq_true hck) | (have hcp4 : (c2 = k + 1) = False := eq_false hck)
      clear hck
      go_region_held3 (fun W' : World => Below w5.heap.size w5 W')
        (first | assumption | exact HSS.out | exact hBk | exact hBk2 | exact hBs | exact Gen.b_alloc (by assumption) | fail "keep")
        (first
          | (refine step_append_w _ (by rfl) (.tmp 143) (.tmp 146) _ (by rfl) w5.heap.size 36 i0 _ 5 56 Try.underlying22 hi0 hz0 hz1 hz2 rfl (by omega) (.slice (some ⟨_, 0, none⟩) 0 0) 0 [] rfl (own_empty (by first | exact Row.new _ _ _ | exact Gen.rowAtD _ _ _ (by simp) | exact Gen.rowAt _ _ _ (by simp) | exact (Gen.rowAt _ _ _ (by simp)).alloc _) (by first | omega | (simp; done) | (simp; omega) | exact Below.size (by assumption))) _ _ k _ _ rfl (HRP.out.below (by assumption)) HONE1z.out N3.out N4.out (Below.size (by assumption)) ?_; intro v7 w7 ho7 hg7 ha7; rw [List.nil_append, Nat.zero_add] at ho7; have hBk : Below w5.heap.size w5 w7 := Below.grown (by assumption) hg7 (Below.size (by assumption)) (fun q hq => by simp [Value.ownBlock] at hq <;> omega); obtain ⟨A7, c7, hv7, _⟩ := Gen.own_slice ho7; subst hv7)
          | (refine step_append_w _ (by rfl) (.tmp 147) (.tmp 151) _ (by rfl) w5.heap.size 36 i0 _ 5 56 Try.underlying22 hi0 hz0 hz1 hz2 rfl (by omega) (.slice A7 k c7) k _ rfl (by first | exact ho7 | exact ho7.alloc _) _ _ (n - (k + 1)) _ _ rfl (HRQ1.out.below (by assumption)) HONE2z.out N7.out N8.out (Below.size (by assumption)) ?_; intro v9 w9' ho9 hg9 ha9; have hBk2 : Below w5.heap.size w5 w9' := Below.grown (by assumption) hg9 (Below.size (by assumption)) (fun q hq => (ho7.lt q hq).1); rw [NP.out] at ho9; obtain ⟨A9, c9, hv9, _⟩ := Gen.own_slice ho9; subst hv9; rw [← List.flatMap_append] at ho9; have hm9 : Pcl w9' A9 (drp (doL l ⟨kq, p, co, wh, d⟩) k) := (by rw [← drp_map HPz.out]; exact pcl_own ho9 HDPz.out (hrs_keep HRSz.out (Gen.over hBk2 HB5.out) k)))
          | (go_at_call 11; with_reducible refine (same_eq _ _ (n - 1) _ _ (drp (doL l ⟨kq, p, co, wh, d⟩) k) _ HD2.out (hm9.keep (Below.refl _ _)) (HP5.out.keep (by assumption)) HS2.out (by omega)).mono ?_; rintro e' z9 ⟨rfl, hsm9⟩; try dsimp only; have hBs := Gen.over hsm9 (show Below w5.heap.size w5 _ by assumption))
          | (go_at_call 11; with_reducible refine (same_eq _ _ 1 _ _ [xk] _ L1.out ((HA1.out.keep HB5.out).keep (by assumption)) ((HL1.out.keep HB5.out).keep (by assumption)) HX1.out (by omega)).mono ?_; rintro e' z1 ⟨rfl, hsm1⟩; try dsimp only; have hBs := Gen.over hsm1 (show Below w5.heap.size w5 _ by assumption); have hsz1 := Below.size hBs)
          | fail "arm")
      all_goals
        rename_i hKK
        go_wp2
        exact HKQ.out _ _ _ _ _ _ _ _ _ _ _ _ _ _ _ _ _ _ _ _ _ _ _ _ _ _ _ _ _ _ _ _ _ _ _ _ _ _ _ _ _ _ _ _ _ _ _ _ _ _ _ _ _ _ _ _ _ _ _ _ _ _ _ _ _ _ _ _ _ _ _ _ _ _ _ _ _ _ _ _ _ _ _ _ _ _ _ _ _ _ _ _ _ _ _ _ _ _ _ _ _ _ _ _ _ _ _ _ _ _ _ _ _ _ _ _ _ _ _ _ _ _ _ _ _ _ _ _ _ _ _ _ _ _ _ _ _ _ _ _ _ _ _ _ _ _ _ _ _ _ _ _ _ _ _ _ _ _ _ _ _ _ _ _ _ _ _ _ _ _ _ _ _ _ _ _ _ _ _ _ _ _ _ _ _ _ _ _ _ _ _ _ _ _ _ _ _ _ _ _ _ _ _ _ _ _ _ _ _ _ _ _ _ _ _ _ _ _ _ _ _ _ _ _ _ _ _ _ _ _ _ _ _ _ _ _ _ _ _ _ _ (Gen.over hKK HB5.out)
end
end Go.Proofs.Ythphlaijkknefaa.Bea
