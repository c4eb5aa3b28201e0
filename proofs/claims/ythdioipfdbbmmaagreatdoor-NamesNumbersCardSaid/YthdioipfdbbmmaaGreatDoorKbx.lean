/- Contracts. -/
import Derived.Test.YthdioipfdbbmmaaGreatDoorKbt
set_option linter.all false
namespace Go.Proofs.YthdioipfdbbmmaaGreatDoor.Nm
open Go.RowKit Go.Maps Tr Par
set_option maxHeartbeats 16000000 in
set_option maxRecDepth 1000000 in
theorem nn_three (w5 wr : World) (tb0 pb : Nat) (p2 : Option Addr) (c2 nb nc ob g tg : Nat) (tp : Option Addr) (tc pc : Nat) (pp : Option Addr) (ns : List Nd) (a : List Tb × List Pr × List Int) (NH : Hid (NnW w5 tb0 pb p2 c2 nb nc ob g tg tp tc pc pp ns a)) (HB : Hid (Below w5.heap.size w5 wr)) (h0 : 0 < ns.length) (h7 : ns.length ≤ 70000) (HN : Hid (∀ i, i < ns.length → NumAt ns a.1 a.2.1 a.2.2 i)) (i : Nat) (hi : i ≤ ns.length) (hin : i < ns.length) (hk : (nd ns i).kind = 3) (K : Act → World → Prop) (R : Ending → World → Prop) (c0 c1 c4 c6 c11 c12 c13 c14 c15 c16 c17 c18 c19 c20 c21 c22 c23 c24 c25 c26 c27 c28 c29 c30 c31 c32 c33 c34 c35 c36 c37 c38 c39 c40 c41 c42 c43 c44 c45 c46 c47 c48 c49 c50 c163 c164 c165 c166 c167 c168 c169 c170 c171 c172 u2 u9 u10 u51 u52 u53 u54 u55 u56 u57 u58 u59 u60 u61 u62 u63 u64 u65 u66 u67 u68 u69 u70 u71 u72 u73 u74 u75 u76 u77 u78 u79 u80 u81 u82 u83 u84 u85 u86 u87 u88 u89 u90 u91 u92 u93 u94 u95 u96 u97 u98 u99 u100 u101 u102 u103 u104 u105 u106 u107 u108 u109 u110 u111 u112 u113 u114 u115 u116 u117 u118 u119 u120 u121 u122 u123 u124 u125 u126 u127 u128 u129 u130 u131 u132 u133 u134 u135 u136 u137 u138 u139 u140 u141 u142 u143 u144 u145 u146 u147 u148 u149 u150 u151 u152 u153 u154 u155 u156 u157 u158 u159 u160 u161 u162 : Value) :
    Code.wp Tryz.prog nnBody (Exit.then (fun a' w' => NnI ns a.2.2 w5 (nnMask tb0 pb c0 c1 c4 c6 c11 c12 c13 c14 c15 c16 c17 c18 c19 c20 c21 c22 c23 c24 c25 c26 c27 c28 c29 c30 c31 c32 c33 c34 c35 c36 c37 c38 c39 c40 c41 c42 c43 c44 c45 c46 c47 c48 c49 c50 c163 c164 c165 c166 c167 c168 c169 c170 c171 c172) a' w' ∧ nnMu ns a' w' < ns.length - i) (Exit.inBlock 0 (Exit.then K (bodyPost Tryz.prog Tryz.f12 R)))) { tmps := ((c0 :: c1 :: u2 :: .pointer (some ⟨tb0, 0, none⟩) :: c4 :: .pointer (some ⟨pb, 0, none⟩) :: c6 :: .int .i64 (inAt ns a.2.2 i) :: .int .i64 (i : Int) :: u9 :: u10 :: c11 :: c12 :: c13 :: c14 :: c15 :: c16 :: c17 :: c18 :: c19 :: c20 :: c21 :: c22 :: c23 :: c24 :: c25 :: c26 :: c27 :: c28 :: c29 :: c30 :: c31 :: c32 :: c33 :: c34 :: c35 :: c36 :: c37 :: c38 :: c39 :: c40 :: c41 :: c42 :: c43 :: c44 :: c45 :: c46 :: c47 :: c48 :: c49 :: c50 :: u51 :: u52 :: u53 :: u54 :: u55 :: u56 :: u57 :: u58 :: u59 :: u60 :: u61 :: u62 :: u63 :: u64 :: u65 :: u66 :: u67 :: u68 :: u69 :: u70 :: u71 :: u72 :: u73 :: u74 :: u75 :: u76 :: u77 :: u78 :: u79 :: u80 :: u81 :: u82 :: u83 :: u84 :: u85 :: u86 :: u87 :: u88 :: u89 :: u90 :: u91 :: u92 :: u93 :: u94 :: u95 :: u96 :: u97 :: u98 :: u99 :: u100 :: u101 :: u102 :: u103 :: u104 :: u105 :: u106 :: u107 :: u108 :: u109 :: u110 :: u111 :: u112 :: u113 :: u114 :: u115 :: u116 :: u117 :: u118 :: u119 :: u120 :: u121 :: u122 :: u123 :: u124 :: u125 :: u126 :: u127 :: u128 :: u129 :: u130 :: u131 :: u132 :: u133 :: u134 :: u135 :: u136 :: u137 :: u138 :: u139 :: u140 :: u141 :: u142 :: u143 :: u144 :: u145 :: u146 :: u147 :: u148 :: u149 :: u150 :: u151 :: u152 :: u153 :: u154 :: u155 :: u156 :: u157 :: u158 :: u159 :: u160 :: u161 :: u162 :: c163 :: c164 :: c165 :: c166 :: c167 :: c168 :: c169 :: c170 :: c171 :: c172 :: [])).toArray, defers := [] } wr := by
  conv => arg 2; whnf
  have NR := NH.out.on HB.out
  have ct := NR.tree
  have b0 := NR.box.c0
  have b1 := NR.box.c1
  have b2 := NR.box.c2
  have b3 := NR.box.c3
  have i0 : (0 : Int) ≤ (i : Int) := by omega
  have HK := Lib.hid hk
  clear hk
  obtain ⟨tb, fo, rfl, htl, hnd⟩ := NR.tv.node h0
  obtain ⟨kp, kl, kc, hnc⟩ := hnd i hin
  have n0 := hnc.kind
  have n1 := hnc.at'
  have n2 := hnc.text
  have n3 := hnc.n
  have n4 := hnc.kids
  have o0 := NR.of i hin
  have NA := HN.out i hin
  have i1 : (i : Int) < (ns.length : Int) := by omega
  have jw : IntKind.i64.wrap ((i : Int) + 1) = ((i + 1 : Nat) : Int) := by rw [IntWalk.i64_in _ (by omega)]; omega
  have hin1 : inAt ns a.2.2 (i + 1) = if (nd ns i).kind = 3 then a.2.2.getD i 0 else inAt ns a.2.2 i := rfl
  have HIN := Lib.hid hin1
  clear hin1
  change wr.cell? ⟨tb, fo + i * 5, none⟩ = some (.int .u8 (nd ns i).kind) at n0
  change wr.cell? ⟨tb, fo + i * 5 + 1, none⟩ = some (.int .i64 (nd ns i).at') at n1
  change wr.cell? ⟨tb, fo + i * 5 + 2, none⟩ = some (.string (nd ns i).text) at n2
  change wr.cell? ⟨tb, fo + i * 5 + 3, none⟩ = some (.int .i64 (nd ns i).n) at n3
  have hal := one_below wr (.cells #[.int .u8 0, .int .i64 0, .string ⟨#[]⟩, .int .i64 0, .slice none 0 0] 54)
  have NR2 := NR.on hal
  have ct2 := NR2.tree
  have e3 := NR2.box.c3
  have o2 := NR2.of i hin
  have hal3 := one_below wr (.cells #[.int .u8 (nd ns i).kind, .int .i64 (nd ns i).at', .string (nd ns i).text, .int .i64 (nd ns i).n, .slice kp kl kc] 54)
  have NR3 := NR.on hal3
  have ct4 := NR3.tree
  have e4 := NR3.box.c3
  have o3 := NR3.of i hin
  have NAh := Lib.hid NA
  have NRh := Lib.hid NR
  have HB1 := Lib.hid (HB.out.trans (hal3.mono HB.out.size)).drew
  have hb9 : ((wr.alloc (.cells #[.int .u8 (nd ns i).kind, .int .i64 (nd ns i).at', .string (nd ns i).text, .int .i64 (nd ns i).n, .slice kp kl kc] 54)).drew).heap[wr.heap.size]? = some (.cells #[.int .u8 (nd ns i).kind, .int .i64 (nd ns i).at', .string (nd ns i).text, .int .i64 (nd ns i).n, .slice kp kl kc] 54 (0, 0)) := heap_al wr _ _ rfl
  obtain ⟨oi, hoi⟩ : ∃ oi, a.2.2.getD i 0 = oi := ⟨_, rfl⟩
  obtain ⟨kd, hkd⟩ : ∃ kd, (nd ns i).kind = kd := ⟨_, rfl⟩
  obtain ⟨tx, htx⟩ : ∃ tx, (nd ns i).text = tx := ⟨_, rfl⟩
  obtain ⟨ni, hni⟩ : ∃ ni, (nd ns i).n = ni := ⟨_, rfl⟩
  obtain ⟨ai, hai⟩ : ∃ ai, (nd ns i).at' = ai := ⟨_, rfl⟩
  rw [hoi] at o0 o2 o3
  rw [hkd, htx, hni, hai] at ct4 e4 o3 hb9 HB1
  rw [hkd] at n0
  rw [hai] at n1
  rw [htx] at n2
  rw [hni] at n3
  clear NA hnc hnd NR NR2 hal NR3 hal3 hni hai
  go_wp2_with fail
  go_region
  obtain ⟨W1, hW1⟩ : ∃ W1, (wr.alloc (.cells #[.int .u8 kd, .int .i64 ai, .string tx, .int .i64 ni, .slice kp kl kc] 54)).drew = W1 := ⟨_, rfl⟩
  rw [hW1] at HB1 hb9
  rw [hW1]
  have N1 := NH.out.on HB1.out
  have f0 : W1.cell? ⟨wr.heap.size, 0, none⟩ = some (.int .u8 kd) := by rw [cell_of_row _ _ _ _ _ _ hb9]; rfl
  have f2 : W1.cell? ⟨wr.heap.size, 2, none⟩ = some (.string tx) := by rw [cell_of_row _ _ _ _ _ _ hb9]; rfl
  have g1 := N1.box.c1
  have g2 := N1.box.c2
  have N1h := Lib.hid N1
  clear hb9 hW1 ct b0 b1 b2 b3 n0 n1 n2 n3 n4 o0 ct2 e3 o2 ct4 e4 o3 N1
  have hb3 : (tx.toList == tx.toList) = true := by rw [beq_str]; exact decide_eq_true rfl
  have hk := HK.out
  rw [hkd] at hk
  have hk3 : kd = 3 := hk
  obtain ⟨m, pr, hm, hpr, hnm, hrt⟩ := NAh.out.proc (by rw [hkd, hk3])
  obtain ⟨rfl, hgl, vp, vc, hpa⟩ := N1h.out.procs m pr hpr
  have k0 := hpa.c0
  have k4 := hpa.c4
  rw [hnm, htx] at k0
  rw [hrt] at k4
  have hml : m < a.2.1.length := (List.getElem?_eq_some_iff.1 hpr).1
  obtain rfl : oi = (m : Int) := by rw [← hoi, hm]
  have m0 : (0 : Int) ≤ (m : Int) := by omega
  have m1 : (m : Int) < (a.2.1.length : Int) := by omega
  have d0 : decide ((m : Int) < 0) = false := decide_eq_false (by omega)
  have d1 : decide ((a.2.1.length : Int) ≤ (m : Int)) = false := decide_eq_false (by omega)
  have d1n : decide (a.2.1.length ≤ m) = false := decide_eq_false (by omega)
  have d1g : decide ((m : Int) ≥ (a.2.1.length : Int)) = false := decide_eq_false (by omega)
  have HI2 : Hid (inAt ns a.2.2 (i + 1) = (m : Int)) := Lib.hid (by rw [HIN.out, if_pos (by rw [hkd, hk3]), hoi])
  subst hk3
  clear hpa hpr hnm hrt
  go_wp2_with fail
  go_quiet (fail)
  have HB2 := Lib.hid (HB1.out.trans (Tr.drewN_below _ W1 nq))
  clear k0 k4 f0 f2 g1 g2
  go_wp2_with fail
  unfold NnI nnMu
  refine ⟨⟨rfl, ?_, i + 1, by omega, ?_, ?_, HB2⟩, ?_⟩
  · unfold nnMask; simp only [fits, and_self]
  · first | rfl | (congr 1; done) | (simp; done)
  · rw [HI2.out]; rfl
  · first | exact jm | (simp [intOf]; omega)
end Go.Proofs.YthdioipfdbbmmaaGreatDoor.Nm
namespace Go.Proofs.YthdioipfdbbmmaaGreatDoor.Nm
open Go.RowKit Go.Maps Tr Par
set_option maxHeartbeats 16000000 in
set_option maxRecDepth 1000000 in
theorem nn_two (w5 wr : World) (tb0 pb : Nat) (p2 : Option Addr) (c2 nb nc ob g tg : Nat) (tp : Option Addr) (tc pc : Nat) (pp : Option Addr) (ns : List Nd) (a : List Tb × List Pr × List Int) (NH : Hid (NnW w5 tb0 pb p2 c2 nb nc ob g tg tp tc pc pp ns a)) (HB : Hid (Below w5.heap.size w5 wr)) (h0 : 0 < ns.length) (h7 : ns.length ≤ 70000) (HN : Hid (∀ i, i < ns.length → NumAt ns a.1 a.2.1 a.2.2 i)) (i : Nat) (hi : i ≤ ns.length) (hin : i < ns.length) (hk : (nd ns i).kind = 2 ∨ (nd ns i).kind = 20) (K : Act → World → Prop) (R : Ending → World → Prop) (c0 c1 c4 c6 c11 c12 c13 c14 c15 c16 c17 c18 c19 c20 c21 c22 c23 c24 c25 c26 c27 c28 c29 c30 c31 c32 c33 c34 c35 c36 c37 c38 c39 c40 c41 c42 c43 c44 c45 c46 c47 c48 c49 c50 c163 c164 c165 c166 c167 c168 c169 c170 c171 c172 u2 u9 u10 u51 u52 u53 u54 u55 u56 u57 u58 u59 u60 u61 u62 u63 u64 u65 u66 u67 u68 u69 u70 u71 u72 u73 u74 u75 u76 u77 u78 u79 u80 u81 u82 u83 u84 u85 u86 u87 u88 u89 u90 u91 u92 u93 u94 u95 u96 u97 u98 u99 u100 u101 u102 u103 u104 u105 u106 u107 u108 u109 u110 u111 u112 u113 u114 u115 u116 u117 u118 u119 u120 u121 u122 u123 u124 u125 u126 u127 u128 u129 u130 u131 u132 u133 u134 u135 u136 u137 u138 u139 u140 u141 u142 u143 u144 u145 u146 u147 u148 u149 u150 u151 u152 u153 u154 u155 u156 u157 u158 u159 u160 u161 u162 : Value) :
    Code.wp Tryz.prog nnBody (Exit.then (fun a' w' => NnI ns a.2.2 w5 (nnMask tb0 pb c0 c1 c4 c6 c11 c12 c13 c14 c15 c16 c17 c18 c19 c20 c21 c22 c23 c24 c25 c26 c27 c28 c29 c30 c31 c32 c33 c34 c35 c36 c37 c38 c39 c40 c41 c42 c43 c44 c45 c46 c47 c48 c49 c50 c163 c164 c165 c166 c167 c168 c169 c170 c171 c172) a' w' ∧ nnMu ns a' w' < ns.length - i) (Exit.inBlock 0 (Exit.then K (bodyPost Tryz.prog Tryz.f12 R)))) { tmps := ((c0 :: c1 :: u2 :: .pointer (some ⟨tb0, 0, none⟩) :: c4 :: .pointer (some ⟨pb, 0, none⟩) :: c6 :: .int .i64 (inAt ns a.2.2 i) :: .int .i64 (i : Int) :: u9 :: u10 :: c11 :: c12 :: c13 :: c14 :: c15 :: c16 :: c17 :: c18 :: c19 :: c20 :: c21 :: c22 :: c23 :: c24 :: c25 :: c26 :: c27 :: c28 :: c29 :: c30 :: c31 :: c32 :: c33 :: c34 :: c35 :: c36 :: c37 :: c38 :: c39 :: c40 :: c41 :: c42 :: c43 :: c44 :: c45 :: c46 :: c47 :: c48 :: c49 :: c50 :: u51 :: u52 :: u53 :: u54 :: u55 :: u56 :: u57 :: u58 :: u59 :: u60 :: u61 :: u62 :: u63 :: u64 :: u65 :: u66 :: u67 :: u68 :: u69 :: u70 :: u71 :: u72 :: u73 :: u74 :: u75 :: u76 :: u77 :: u78 :: u79 :: u80 :: u81 :: u82 :: u83 :: u84 :: u85 :: u86 :: u87 :: u88 :: u89 :: u90 :: u91 :: u92 :: u93 :: u94 :: u95 :: u96 :: u97 :: u98 :: u99 :: u100 :: u101 :: u102 :: u103 :: u104 :: u105 :: u106 :: u107 :: u108 :: u109 :: u110 :: u111 :: u112 :: u113 :: u114 :: u115 :: u116 :: u117 :: u118 :: u119 :: u120 :: u121 :: u122 :: u123 :: u124 :: u125 :: u126 :: u127 :: u128 :: u129 :: u130 :: u131 :: u132 :: u133 :: u134 :: u135 :: u136 :: u137 :: u138 :: u139 :: u140 :: u141 :: u142 :: u143 :: u144 :: u145 :: u146 :: u147 :: u148 :: u149 :: u150 :: u151 :: u152 :: u153 :: u154 :: u155 :: u156 :: u157 :: u158 :: u159 :: u160 :: u161 :: u162 :: c163 :: c164 :: c165 :: c166 :: c167 :: c168 :: c169 :: c170 :: c171 :: c172 :: [])).toArray, defers := [] } wr := by
  conv => arg 2; whnf
  have NR := NH.out.on HB.out
  have ct := NR.tree
  have b0 := NR.box.c0
  have b1 := NR.box.c1
  have b2 := NR.box.c2
  have b3 := NR.box.c3
  have i0 : (0 : Int) ≤ (i : Int) := by omega
  have HK := Lib.hid hk
  clear hk
  obtain ⟨tb, fo, rfl, htl, hnd⟩ := NR.tv.node h0
  obtain ⟨kp, kl, kc, hnc⟩ := hnd i hin
  have n0 := hnc.kind
  have n1 := hnc.at'
  have n2 := hnc.text
  have n3 := hnc.n
  have n4 := hnc.kids
  have o0 := NR.of i hin
  have NA := HN.out i hin
  have i1 : (i : Int) < (ns.length : Int) := by omega
  have jw : IntKind.i64.wrap ((i : Int) + 1) = ((i + 1 : Nat) : Int) := by rw [IntWalk.i64_in _ (by omega)]; omega
  have hin1 : inAt ns a.2.2 (i + 1) = if (nd ns i).kind = 3 then a.2.2.getD i 0 else inAt ns a.2.2 i := rfl
  have HIN := Lib.hid hin1
  clear hin1
  change wr.cell? ⟨tb, fo + i * 5, none⟩ = some (.int .u8 (nd ns i).kind) at n0
  change wr.cell? ⟨tb, fo + i * 5 + 1, none⟩ = some (.int .i64 (nd ns i).at') at n1
  change wr.cell? ⟨tb, fo + i * 5 + 2, none⟩ = some (.string (nd ns i).text) at n2
  change wr.cell? ⟨tb, fo + i * 5 + 3, none⟩ = some (.int .i64 (nd ns i).n) at n3
  have hal := one_below wr (.cells #[.int .u8 0, .int .i64 0, .string ⟨#[]⟩, .int .i64 0, .slice none 0 0] 54)
  have NR2 := NR.on hal
  have ct2 := NR2.tree
  have e3 := NR2.box.c3
  have o2 := NR2.of i hin
  have hal3 := one_below wr (.cells #[.int .u8 (nd ns i).kind, .int .i64 (nd ns i).at', .string (nd ns i).text, .int .i64 (nd ns i).n, .slice kp kl kc] 54)
  have NR3 := NR.on hal3
  have ct4 := NR3.tree
  have e4 := NR3.box.c3
  have o3 := NR3.of i hin
  have NAh := Lib.hid NA
  have NRh := Lib.hid NR
  have HB1 := Lib.hid (HB.out.trans (hal3.mono HB.out.size)).drew
  have hb9 : ((wr.alloc (.cells #[.int .u8 (nd ns i).kind, .int .i64 (nd ns i).at', .string (nd ns i).text, .int .i64 (nd ns i).n, .slice kp kl kc] 54)).drew).heap[wr.heap.size]? = some (.cells #[.int .u8 (nd ns i).kind, .int .i64 (nd ns i).at', .string (nd ns i).text, .int .i64 (nd ns i).n, .slice kp kl kc] 54 (0, 0)) := heap_al wr _ _ rfl
  obtain ⟨oi, hoi⟩ : ∃ oi, a.2.2.getD i 0 = oi := ⟨_, rfl⟩
  obtain ⟨kd, hkd⟩ : ∃ kd, (nd ns i).kind = kd := ⟨_, rfl⟩
  obtain ⟨tx, htx⟩ : ∃ tx, (nd ns i).text = tx := ⟨_, rfl⟩
  obtain ⟨ni, hni⟩ : ∃ ni, (nd ns i).n = ni := ⟨_, rfl⟩
  obtain ⟨ai, hai⟩ : ∃ ai, (nd ns i).at' = ai := ⟨_, rfl⟩
  rw [hoi] at o0 o2 o3
  rw [hkd, htx, hni, hai] at ct4 e4 o3 hb9 HB1
  rw [hkd] at n0
  rw [hai] at n1
  rw [htx] at n2
  rw [hni] at n3
  clear NA hnc hnd NR NR2 hal NR3 hal3 hni hai
  go_wp2_with fail
  go_region
  obtain ⟨W1, hW1⟩ : ∃ W1, (wr.alloc (.cells #[.int .u8 kd, .int .i64 ai, .string tx, .int .i64 ni, .slice kp kl kc] 54)).drew = W1 := ⟨_, rfl⟩
  rw [hW1] at HB1 hb9
  rw [hW1]
  have N1 := NH.out.on HB1.out
  have f0 : W1.cell? ⟨wr.heap.size, 0, none⟩ = some (.int .u8 kd) := by rw [cell_of_row _ _ _ _ _ _ hb9]; rfl
  have f2 : W1.cell? ⟨wr.heap.size, 2, none⟩ = some (.string tx) := by rw [cell_of_row _ _ _ _ _ _ hb9]; rfl
  have g1 := N1.box.c1
  have g2 := N1.box.c2
  have N1h := Lib.hid N1
  clear hb9 hW1 ct b0 b1 b2 b3 n0 n1 n2 n3 n4 o0 ct2 e3 o2 ct4 e4 o3 N1
  have hb3 : (tx.toList == tx.toList) = true := by rw [beq_str]; exact decide_eq_true rfl
  have hk := HK.out
  rw [hkd] at hk
  have hk2 : kd = 2 ∨ kd = 20 := hk
  have hk3 : ¬ kd = 3 := by omega
  have c3 : (kd == (3 : Int)) = false := by simp [hk3]
  obtain ⟨m, hm, hml, hnm⟩ := NAh.out.table (by rw [hkd]; exact hk2)
  obtain ⟨t, ht⟩ : ∃ t, a.1[m]? = some t := ⟨_, List.getElem?_eq_getElem hml⟩
  obtain ⟨rfl, hgl, vp, vc, hpa⟩ := N1h.out.tabs m t ht
  have k0 := hpa.c0
  have htn : t.name = tx := by rw [← htx, ← hnm]; simp [List.getD, ht]
  rw [htn] at k0
  obtain rfl : oi = (m : Int) := by rw [← hoi, hm]
  have m0 : (0 : Int) ≤ (m : Int) := by omega
  have m1 : (m : Int) < (a.1.length : Int) := by omega
  have d0 : decide ((m : Int) < 0) = false := decide_eq_false (by omega)
  have d1 : decide ((a.1.length : Int) ≤ (m : Int)) = false := decide_eq_false (by omega)
  have d1n : decide (a.1.length ≤ m) = false := decide_eq_false (by omega)
  have d1g : decide ((m : Int) ≥ (a.1.length : Int)) = false := decide_eq_false (by omega)
  have HI2 : Hid (inAt ns a.2.2 (i + 1) = inAt ns a.2.2 i) := Lib.hid (by rw [HIN.out, if_neg (by rw [hkd]; exact hk3)])
  clear hpa ht hnm htn hk hk3
  go_upto_if 103 with fail
  go_cut [103] from 105 to 105 (fun v wx => v = .bool true ∧ wx = W1)
  case first =>
    rcases hk2 with rfl | rfl
    · go_wp2_with fail
      go_meet
      case rel => exact ⟨rfl, rfl⟩
    · go_wp2_with fail
      go_meet
      case rel => exact ⟨rfl, rfl⟩
  case rest =>
    obtain ⟨rfl, rfl⟩ := hcut
    go_wp2_with fail
    go_quiet (fail)
    have HB2 := Lib.hid (HB1.out.trans (Tr.drewN_below _ _ nq))
    clear k0 f0 f2 g1 g2
    go_wp2_with fail
    unfold NnI nnMu
    refine ⟨⟨rfl, ?_, i + 1, by omega, ?_, ?_, HB2⟩, ?_⟩
    · unfold nnMask; simp only [fits, and_self]
    · first | rfl | (congr 1; done) | (simp; done)
    · rw [HI2.out]; rfl
    · first | exact jm | (simp [intOf]; omega)
end Go.Proofs.YthdioipfdbbmmaaGreatDoor.Nm
