/- Contracts. -/
import Derived.Test.YthdioipfdbbmmaaGreatDoorKbx
import Derived.Test.YthdioipfdbbmmaaGreatDoorKby
set_option linter.all false
namespace Go.Proofs.YthdioipfdbbmmaaGreatDoor.Nm
open Go.RowKit Go.Maps Tr Par
set_option maxRecDepth 1000000 in
set_option maxHeartbeats 16000000 in
theorem nn_open (tb pb : Nat) (c0 c1 c4 c6 c11 c12 c13 c14 c15 c16 c17 c18 c19 c20 c21 c22 c23 c24 c25 c26 c27 c28 c29 c30 c31 c32 c33 c34 c35 c36 c37 c38 c39 c40 c41 c42 c43 c44 c45 c46 c47 c48 c49 c50 c163 c164 c165 c166 c167 c168 c169 c170 c171 c172 : Value) (P : List Value → Prop) (hP : ∀ u2 u7 u8 u9 u10 u51 u52 u53 u54 u55 u56 u57 u58 u59 u60 u61 u62 u63 u64 u65 u66 u67 u68 u69 u70 u71 u72 u73 u74 u75 u76 u77 u78 u79 u80 u81 u82 u83 u84 u85 u86 u87 u88 u89 u90 u91 u92 u93 u94 u95 u96 u97 u98 u99 u100 u101 u102 u103 u104 u105 u106 u107 u108 u109 u110 u111 u112 u113 u114 u115 u116 u117 u118 u119 u120 u121 u122 u123 u124 u125 u126 u127 u128 u129 u130 u131 u132 u133 u134 u135 u136 u137 u138 u139 u140 u141 u142 u143 u144 u145 u146 u147 u148 u149 u150 u151 u152 u153 u154 u155 u156 u157 u158 u159 u160 u161 u162 : Value, P (c0 :: c1 :: u2 :: .pointer (some ⟨tb, 0, none⟩) :: c4 :: .pointer (some ⟨pb, 0, none⟩) :: c6 :: u7 :: u8 :: u9 :: u10 :: c11 :: c12 :: c13 :: c14 :: c15 :: c16 :: c17 :: c18 :: c19 :: c20 :: c21 :: c22 :: c23 :: c24 :: c25 :: c26 :: c27 :: c28 :: c29 :: c30 :: c31 :: c32 :: c33 :: c34 :: c35 :: c36 :: c37 :: c38 :: c39 :: c40 :: c41 :: c42 :: c43 :: c44 :: c45 :: c46 :: c47 :: c48 :: c49 :: c50 :: u51 :: u52 :: u53 :: u54 :: u55 :: u56 :: u57 :: u58 :: u59 :: u60 :: u61 :: u62 :: u63 :: u64 :: u65 :: u66 :: u67 :: u68 :: u69 :: u70 :: u71 :: u72 :: u73 :: u74 :: u75 :: u76 :: u77 :: u78 :: u79 :: u80 :: u81 :: u82 :: u83 :: u84 :: u85 :: u86 :: u87 :: u88 :: u89 :: u90 :: u91 :: u92 :: u93 :: u94 :: u95 :: u96 :: u97 :: u98 :: u99 :: u100 :: u101 :: u102 :: u103 :: u104 :: u105 :: u106 :: u107 :: u108 :: u109 :: u110 :: u111 :: u112 :: u113 :: u114 :: u115 :: u116 :: u117 :: u118 :: u119 :: u120 :: u121 :: u122 :: u123 :: u124 :: u125 :: u126 :: u127 :: u128 :: u129 :: u130 :: u131 :: u132 :: u133 :: u134 :: u135 :: u136 :: u137 :: u138 :: u139 :: u140 :: u141 :: u142 :: u143 :: u144 :: u145 :: u146 :: u147 :: u148 :: u149 :: u150 :: u151 :: u152 :: u153 :: u154 :: u155 :: u156 :: u157 :: u158 :: u159 :: u160 :: u161 :: u162 :: c163 :: c164 :: c165 :: c166 :: c167 :: c168 :: c169 :: c170 :: c171 :: c172 :: [])) (l : List Value) (h : fits (nnMask tb pb c0 c1 c4 c6 c11 c12 c13 c14 c15 c16 c17 c18 c19 c20 c21 c22 c23 c24 c25 c26 c27 c28 c29 c30 c31 c32 c33 c34 c35 c36 c37 c38 c39 c40 c41 c42 c43 c44 c45 c46 c47 c48 c49 c50 c163 c164 c165 c166 c167 c168 c169 c170 c171 c172) l) : P l := by
  unfold nnMask at h
  refine fits_is h (fun q0 e0 t h => ?_)
  refine fits_is h (fun q1 e1 t h => ?_)
  refine fits_any h (fun u2 q2 e2 t h => ?_)
  refine fits_is h (fun q3 e3 t h => ?_)
  refine fits_is h (fun q4 e4 t h => ?_)
  refine fits_is h (fun q5 e5 t h => ?_)
  refine fits_is h (fun q6 e6 t h => ?_)
  refine fits_any h (fun u7 q7 e7 t h => ?_)
  refine fits_any h (fun u8 q8 e8 t h => ?_)
  refine fits_any h (fun u9 q9 e9 t h => ?_)
  refine fits_any h (fun u10 q10 e10 t h => ?_)
  refine fits_is h (fun q11 e11 t h => ?_)
  refine fits_is h (fun q12 e12 t h => ?_)
  refine fits_is h (fun q13 e13 t h => ?_)
  refine fits_is h (fun q14 e14 t h => ?_)
  refine fits_is h (fun q15 e15 t h => ?_)
  refine fits_is h (fun q16 e16 t h => ?_)
  refine fits_is h (fun q17 e17 t h => ?_)
  refine fits_is h (fun q18 e18 t h => ?_)
  refine fits_is h (fun q19 e19 t h => ?_)
  refine fits_is h (fun q20 e20 t h => ?_)
  refine fits_is h (fun q21 e21 t h => ?_)
  refine fits_is h (fun q22 e22 t h => ?_)
  refine fits_is h (fun q23 e23 t h => ?_)
  refine fits_is h (fun q24 e24 t h => ?_)
  refine fits_is h (fun q25 e25 t h => ?_)
  refine fits_is h (fun q26 e26 t h => ?_)
  refine fits_is h (fun q27 e27 t h => ?_)
  refine fits_is h (fun q28 e28 t h => ?_)
  refine fits_is h (fun q29 e29 t h => ?_)
  refine fits_is h (fun q30 e30 t h => ?_)
  refine fits_is h (fun q31 e31 t h => ?_)
  refine fits_is h (fun q32 e32 t h => ?_)
  refine fits_is h (fun q33 e33 t h => ?_)
  refine fits_is h (fun q34 e34 t h => ?_)
  refine fits_is h (fun q35 e35 t h => ?_)
  refine fits_is h (fun q36 e36 t h => ?_)
  refine fits_is h (fun q37 e37 t h => ?_)
  refine fits_is h (fun q38 e38 t h => ?_)
  refine fits_is h (fun q39 e39 t h => ?_)
  refine fits_is h (fun q40 e40 t h => ?_)
  refine fits_is h (fun q41 e41 t h => ?_)
  refine fits_is h (fun q42 e42 t h => ?_)
  refine fits_is h (fun q43 e43 t h => ?_)
  refine fits_is h (fun q44 e44 t h => ?_)
  refine fits_is h (fun q45 e45 t h => ?_)
  refine fits_is h (fun q46 e46 t h => ?_)
  refine fits_is h (fun q47 e47 t h => ?_)
  refine fits_is h (fun q48 e48 t h => ?_)
  refine fits_is h (fun q49 e49 t h => ?_)
  refine fits_is h (fun q50 e50 t h => ?_)
  refine fits_any h (fun u51 q51 e51 t h => ?_)
  refine fits_any h (fun u52 q52 e52 t h => ?_)
  refine fits_any h (fun u53 q53 e53 t h => ?_)
  refine fits_any h (fun u54 q54 e54 t h => ?_)
  refine fits_any h (fun u55 q55 e55 t h => ?_)
  refine fits_any h (fun u56 q56 e56 t h => ?_)
  refine fits_any h (fun u57 q57 e57 t h => ?_)
  refine fits_any h (fun u58 q58 e58 t h => ?_)
  refine fits_any h (fun u59 q59 e59 t h => ?_)
  refine fits_any h (fun u60 q60 e60 t h => ?_)
  refine fits_any h (fun u61 q61 e61 t h => ?_)
  refine fits_any h (fun u62 q62 e62 t h => ?_)
  refine fits_any h (fun u63 q63 e63 t h => ?_)
  refine fits_any h (fun u64 q64 e64 t h => ?_)
  refine fits_any h (fun u65 q65 e65 t h => ?_)
  refine fits_any h (fun u66 q66 e66 t h => ?_)
  refine fits_any h (fun u67 q67 e67 t h => ?_)
  refine fits_any h (fun u68 q68 e68 t h => ?_)
  refine fits_any h (fun u69 q69 e69 t h => ?_)
  refine fits_any h (fun u70 q70 e70 t h => ?_)
  refine fits_any h (fun u71 q71 e71 t h => ?_)
  refine fits_any h (fun u72 q72 e72 t h => ?_)
  refine fits_any h (fun u73 q73 e73 t h => ?_)
  refine fits_any h (fun u74 q74 e74 t h => ?_)
  refine fits_any h (fun u75 q75 e75 t h => ?_)
  refine fits_any h (fun u76 q76 e76 t h => ?_)
  refine fits_any h (fun u77 q77 e77 t h => ?_)
  refine fits_any h (fun u78 q78 e78 t h => ?_)
  refine fits_any h (fun u79 q79 e79 t h => ?_)
  refine fits_any h (fun u80 q80 e80 t h => ?_)
  refine fits_any h (fun u81 q81 e81 t h => ?_)
  refine fits_any h (fun u82 q82 e82 t h => ?_)
  refine fits_any h (fun u83 q83 e83 t h => ?_)
  refine fits_any h (fun u84 q84 e84 t h => ?_)
  refine fits_any h (fun u85 q85 e85 t h => ?_)
  refine fits_any h (fun u86 q86 e86 t h => ?_)
  refine fits_any h (fun u87 q87 e87 t h => ?_)
  refine fits_any h (fun u88 q88 e88 t h => ?_)
  refine fits_any h (fun u89 q89 e89 t h => ?_)
  refine fits_any h (fun u90 q90 e90 t h => ?_)
  refine fits_any h (fun u91 q91 e91 t h => ?_)
  refine fits_any h (fun u92 q92 e92 t h => ?_)
  refine fits_any h (fun u93 q93 e93 t h => ?_)
  refine fits_any h (fun u94 q94 e94 t h => ?_)
  refine fits_any h (fun u95 q95 e95 t h => ?_)
  refine fits_any h (fun u96 q96 e96 t h => ?_)
  refine fits_any h (fun u97 q97 e97 t h => ?_)
  refine fits_any h (fun u98 q98 e98 t h => ?_)
  refine fits_any h (fun u99 q99 e99 t h => ?_)
  refine fits_any h (fun u100 q100 e100 t h => ?_)
  refine fits_any h (fun u101 q101 e101 t h => ?_)
  refine fits_any h (fun u102 q102 e102 t h => ?_)
  refine fits_any h (fun u103 q103 e103 t h => ?_)
  refine fits_any h (fun u104 q104 e104 t h => ?_)
  refine fits_any h (fun u105 q105 e105 t h => ?_)
  refine fits_any h (fun u106 q106 e106 t h => ?_)
  refine fits_any h (fun u107 q107 e107 t h => ?_)
  refine fits_any h (fun u108 q108 e108 t h => ?_)
  refine fits_any h (fun u109 q109 e109 t h => ?_)
  refine fits_any h (fun u110 q110 e110 t h => ?_)
  refine fits_any h (fun u111 q111 e111 t h => ?_)
  refine fits_any h (fun u112 q112 e112 t h => ?_)
  refine fits_any h (fun u113 q113 e113 t h => ?_)
  refine fits_any h (fun u114 q114 e114 t h => ?_)
  refine fits_any h (fun u115 q115 e115 t h => ?_)
  refine fits_any h (fun u116 q116 e116 t h => ?_)
  refine fits_any h (fun u117 q117 e117 t h => ?_)
  refine fits_any h (fun u118 q118 e118 t h => ?_)
  refine fits_any h (fun u119 q119 e119 t h => ?_)
  refine fits_any h (fun u120 q120 e120 t h => ?_)
  refine fits_any h (fun u121 q121 e121 t h => ?_)
  refine fits_any h (fun u122 q122 e122 t h => ?_)
  refine fits_any h (fun u123 q123 e123 t h => ?_)
  refine fits_any h (fun u124 q124 e124 t h => ?_)
  refine fits_any h (fun u125 q125 e125 t h => ?_)
  refine fits_any h (fun u126 q126 e126 t h => ?_)
  refine fits_any h (fun u127 q127 e127 t h => ?_)
  refine fits_any h (fun u128 q128 e128 t h => ?_)
  refine fits_any h (fun u129 q129 e129 t h => ?_)
  refine fits_any h (fun u130 q130 e130 t h => ?_)
  refine fits_any h (fun u131 q131 e131 t h => ?_)
  refine fits_any h (fun u132 q132 e132 t h => ?_)
  refine fits_any h (fun u133 q133 e133 t h => ?_)
  refine fits_any h (fun u134 q134 e134 t h => ?_)
  refine fits_any h (fun u135 q135 e135 t h => ?_)
  refine fits_any h (fun u136 q136 e136 t h => ?_)
  refine fits_any h (fun u137 q137 e137 t h => ?_)
  refine fits_any h (fun u138 q138 e138 t h => ?_)
  refine fits_any h (fun u139 q139 e139 t h => ?_)
  refine fits_any h (fun u140 q140 e140 t h => ?_)
  refine fits_any h (fun u141 q141 e141 t h => ?_)
  refine fits_any h (fun u142 q142 e142 t h => ?_)
  refine fits_any h (fun u143 q143 e143 t h => ?_)
  refine fits_any h (fun u144 q144 e144 t h => ?_)
  refine fits_any h (fun u145 q145 e145 t h => ?_)
  refine fits_any h (fun u146 q146 e146 t h => ?_)
  refine fits_any h (fun u147 q147 e147 t h => ?_)
  refine fits_any h (fun u148 q148 e148 t h => ?_)
  refine fits_any h (fun u149 q149 e149 t h => ?_)
  refine fits_any h (fun u150 q150 e150 t h => ?_)
  refine fits_any h (fun u151 q151 e151 t h => ?_)
  refine fits_any h (fun u152 q152 e152 t h => ?_)
  refine fits_any h (fun u153 q153 e153 t h => ?_)
  refine fits_any h (fun u154 q154 e154 t h => ?_)
  refine fits_any h (fun u155 q155 e155 t h => ?_)
  refine fits_any h (fun u156 q156 e156 t h => ?_)
  refine fits_any h (fun u157 q157 e157 t h => ?_)
  refine fits_any h (fun u158 q158 e158 t h => ?_)
  refine fits_any h (fun u159 q159 e159 t h => ?_)
  refine fits_any h (fun u160 q160 e160 t h => ?_)
  refine fits_any h (fun u161 q161 e161 t h => ?_)
  refine fits_any h (fun u162 q162 e162 t h => ?_)
  refine fits_is h (fun q163 e163 t h => ?_)
  refine fits_is h (fun q164 e164 t h => ?_)
  refine fits_is h (fun q165 e165 t h => ?_)
  refine fits_is h (fun q166 e166 t h => ?_)
  refine fits_is h (fun q167 e167 t h => ?_)
  refine fits_is h (fun q168 e168 t h => ?_)
  refine fits_is h (fun q169 e169 t h => ?_)
  refine fits_is h (fun q170 e170 t h => ?_)
  refine fits_is h (fun q171 e171 t h => ?_)
  refine fits_is h (fun q172 e172 t h => ?_)
  refine fits_end h ((e172 _).2 ((e171 _).2 ((e170 _).2 ((e169 _).2 ((e168 _).2 ((e167 _).2 ((e166 _).2 ((e165 _).2 ((e164 _).2 ((e163 _).2 ((e162 _).2 ((e161 _).2 ((e160 _).2 ((e159 _).2 ((e158 _).2 ((e157 _).2 ((e156 _).2 ((e155 _).2 ((e154 _).2 ((e153 _).2 ((e152 _).2 ((e151 _).2 ((e150 _).2 ((e149 _).2 ((e148 _).2 ((e147 _).2 ((e146 _).2 ((e145 _).2 ((e144 _).2 ((e143 _).2 ((e142 _).2 ((e141 _).2 ((e140 _).2 ((e139 _).2 ((e138 _).2 ((e137 _).2 ((e136 _).2 ((e135 _).2 ((e134 _).2 ((e133 _).2 ((e132 _).2 ((e131 _).2 ((e130 _).2 ((e129 _).2 ((e128 _).2 ((e127 _).2 ((e126 _).2 ((e125 _).2 ((e124 _).2 ((e123 _).2 ((e122 _).2 ((e121 _).2 ((e120 _).2 ((e119 _).2 ((e118 _).2 ((e117 _).2 ((e116 _).2 ((e115 _).2 ((e114 _).2 ((e113 _).2 ((e112 _).2 ((e111 _).2 ((e110 _).2 ((e109 _).2 ((e108 _).2 ((e107 _).2 ((e106 _).2 ((e105 _).2 ((e104 _).2 ((e103 _).2 ((e102 _).2 ((e101 _).2 ((e100 _).2 ((e99 _).2 ((e98 _).2 ((e97 _).2 ((e96 _).2 ((e95 _).2 ((e94 _).2 ((e93 _).2 ((e92 _).2 ((e91 _).2 ((e90 _).2 ((e89 _).2 ((e88 _).2 ((e87 _).2 ((e86 _).2 ((e85 _).2 ((e84 _).2 ((e83 _).2 ((e82 _).2 ((e81 _).2 ((e80 _).2 ((e79 _).2 ((e78 _).2 ((e77 _).2 ((e76 _).2 ((e75 _).2 ((e74 _).2 ((e73 _).2 ((e72 _).2 ((e71 _).2 ((e70 _).2 ((e69 _).2 ((e68 _).2 ((e67 _).2 ((e66 _).2 ((e65 _).2 ((e64 _).2 ((e63 _).2 ((e62 _).2 ((e61 _).2 ((e60 _).2 ((e59 _).2 ((e58 _).2 ((e57 _).2 ((e56 _).2 ((e55 _).2 ((e54 _).2 ((e53 _).2 ((e52 _).2 ((e51 _).2 ((e50 _).2 ((e49 _).2 ((e48 _).2 ((e47 _).2 ((e46 _).2 ((e45 _).2 ((e44 _).2 ((e43 _).2 ((e42 _).2 ((e41 _).2 ((e40 _).2 ((e39 _).2 ((e38 _).2 ((e37 _).2 ((e36 _).2 ((e35 _).2 ((e34 _).2 ((e33 _).2 ((e32 _).2 ((e31 _).2 ((e30 _).2 ((e29 _).2 ((e28 _).2 ((e27 _).2 ((e26 _).2 ((e25 _).2 ((e24 _).2 ((e23 _).2 ((e22 _).2 ((e21 _).2 ((e20 _).2 ((e19 _).2 ((e18 _).2 ((e17 _).2 ((e16 _).2 ((e15 _).2 ((e14 _).2 ((e13 _).2 ((e12 _).2 ((e11 _).2 ((e10 _).2 ((e9 _).2 ((e8 _).2 ((e7 _).2 ((e6 _).2 ((e5 _).2 ((e4 _).2 ((e3 _).2 ((e2 _).2 ((e1 _).2 ((e0 _).2 (hP u2 u7 u8 u9 u10 u51 u52 u53 u54 u55 u56 u57 u58 u59 u60 u61 u62 u63 u64 u65 u66 u67 u68 u69 u70 u71 u72 u73 u74 u75 u76 u77 u78 u79 u80 u81 u82 u83 u84 u85 u86 u87 u88 u89 u90 u91 u92 u93 u94 u95 u96 u97 u98 u99 u100 u101 u102 u103 u104 u105 u106 u107 u108 u109 u110 u111 u112 u113 u114 u115 u116 u117 u118 u119 u120 u121 u122 u123 u124 u125 u126 u127 u128 u129 u130 u131 u132 u133 u134 u135 u136 u137 u138 u139 u140 u141 u142 u143 u144 u145 u146 u147 u148 u149 u150 u151 u152 u153 u154 u155 u156 u157 u158 u159 u160 u161 u162))))))))))))))))))))))))))))))))))))))))))))))))))))))))))))))))))))))))))))))))))))))))))))))))))))))))))))))))))))))))))))))))))))))))))))))))))))))))))))))))))))))))))))))
set_option maxHeartbeats 16000000 in
set_option maxRecDepth 1000000 in
theorem nn_exit (w5 : World) (tb0 pb : Nat) (p2 : Option Addr) (c2 nb nc ob g tg : Nat) (tp : Option Addr) (tc pc : Nat) (pp : Option Addr) (ns : List Nd) (a : List Tb × List Pr × List Int) (NH : Hid (NnW w5 tb0 pb p2 c2 nb nc ob g tg tp tc pc pp ns a)) (h0 : 0 < ns.length) (h7 : ns.length ≤ 70000) (HN : Hid (∀ i, i < ns.length → NumAt ns a.1 a.2.1 a.2.2 i)) (wr : World) (HB : Hid (Below w5.heap.size w5 wr)) (K : Act → World → Prop) (R : Ending → World → Prop) (c0 c1 c4 c6 c11 c12 c13 c14 c15 c16 c17 c18 c19 c20 c21 c22 c23 c24 c25 c26 c27 c28 c29 c30 c31 c32 c33 c34 c35 c36 c37 c38 c39 c40 c41 c42 c43 c44 c45 c46 c47 c48 c49 c50 c163 c164 c165 c166 c167 c168 c169 c170 c171 c172 u2 u9 u10 u51 u52 u53 u54 u55 u56 u57 u58 u59 u60 u61 u62 u63 u64 u65 u66 u67 u68 u69 u70 u71 u72 u73 u74 u75 u76 u77 u78 u79 u80 u81 u82 u83 u84 u85 u86 u87 u88 u89 u90 u91 u92 u93 u94 u95 u96 u97 u98 u99 u100 u101 u102 u103 u104 u105 u106 u107 u108 u109 u110 u111 u112 u113 u114 u115 u116 u117 u118 u119 u120 u121 u122 u123 u124 u125 u126 u127 u128 u129 u130 u131 u132 u133 u134 u135 u136 u137 u138 u139 u140 u141 u142 u143 u144 u145 u146 u147 u148 u149 u150 u151 u152 u153 u154 u155 u156 u157 u158 u159 u160 u161 u162 : Value) (hK : ∀ (l : List Value) (wr : World), fits (nnMask tb0 pb c0 c1 c4 c6 c11 c12 c13 c14 c15 c16 c17 c18 c19 c20 c21 c22 c23 c24 c25 c26 c27 c28 c29 c30 c31 c32 c33 c34 c35 c36 c37 c38 c39 c40 c41 c42 c43 c44 c45 c46 c47 c48 c49 c50 c163 c164 c165 c166 c167 c168 c169 c170 c171 c172) l → Hid (Below w5.heap.size w5 wr) → K { tmps := l.toArray, defers := [] } wr) :
    Code.wp Tryz.prog nnBody (Exit.then (fun a' w' => NnI ns a.2.2 w5 (nnMask tb0 pb c0 c1 c4 c6 c11 c12 c13 c14 c15 c16 c17 c18 c19 c20 c21 c22 c23 c24 c25 c26 c27 c28 c29 c30 c31 c32 c33 c34 c35 c36 c37 c38 c39 c40 c41 c42 c43 c44 c45 c46 c47 c48 c49 c50 c163 c164 c165 c166 c167 c168 c169 c170 c171 c172) a' w' ∧ nnMu ns a' w' < ns.length - ns.length) (Exit.inBlock 0 (Exit.then K (bodyPost Tryz.prog Tryz.f12 R)))) { tmps := ((c0 :: c1 :: u2 :: .pointer (some ⟨tb0, 0, none⟩) :: c4 :: .pointer (some ⟨pb, 0, none⟩) :: c6 :: .int .i64 (inAt ns a.2.2 ns.length) :: .int .i64 (ns.length : Int) :: u9 :: u10 :: c11 :: c12 :: c13 :: c14 :: c15 :: c16 :: c17 :: c18 :: c19 :: c20 :: c21 :: c22 :: c23 :: c24 :: c25 :: c26 :: c27 :: c28 :: c29 :: c30 :: c31 :: c32 :: c33 :: c34 :: c35 :: c36 :: c37 :: c38 :: c39 :: c40 :: c41 :: c42 :: c43 :: c44 :: c45 :: c46 :: c47 :: c48 :: c49 :: c50 :: u51 :: u52 :: u53 :: u54 :: u55 :: u56 :: u57 :: u58 :: u59 :: u60 :: u61 :: u62 :: u63 :: u64 :: u65 :: u66 :: u67 :: u68 :: u69 :: u70 :: u71 :: u72 :: u73 :: u74 :: u75 :: u76 :: u77 :: u78 :: u79 :: u80 :: u81 :: u82 :: u83 :: u84 :: u85 :: u86 :: u87 :: u88 :: u89 :: u90 :: u91 :: u92 :: u93 :: u94 :: u95 :: u96 :: u97 :: u98 :: u99 :: u100 :: u101 :: u102 :: u103 :: u104 :: u105 :: u106 :: u107 :: u108 :: u109 :: u110 :: u111 :: u112 :: u113 :: u114 :: u115 :: u116 :: u117 :: u118 :: u119 :: u120 :: u121 :: u122 :: u123 :: u124 :: u125 :: u126 :: u127 :: u128 :: u129 :: u130 :: u131 :: u132 :: u133 :: u134 :: u135 :: u136 :: u137 :: u138 :: u139 :: u140 :: u141 :: u142 :: u143 :: u144 :: u145 :: u146 :: u147 :: u148 :: u149 :: u150 :: u151 :: u152 :: u153 :: u154 :: u155 :: u156 :: u157 :: u158 :: u159 :: u160 :: u161 :: u162 :: c163 :: c164 :: c165 :: c166 :: c167 :: c168 :: c169 :: c170 :: c171 :: c172 :: [])).toArray, defers := [] } wr := by
  conv => arg 2; whnf
  have NR := NH.out.on HB.out
  have ct := NR.tree
  have q1 : ¬ (ns.length : Int) < (ns.length : Int) := by omega
  clear NR
  have HKh := Lib.hid hK
  clear hK
  go_wp2_with fail
  refine HKh.out _ _ ?_ HB
  unfold nnMask; simp only [fits, and_self]
set_option maxHeartbeats 16000000 in
set_option maxRecDepth 1000000 in
theorem nn_round (w5 : World) (tb0 pb : Nat) (p2 : Option Addr) (c2 nb nc ob g tg : Nat) (tp : Option Addr) (tc pc : Nat) (pp : Option Addr) (ns : List Nd) (a : List Tb × List Pr × List Int) (NH : Hid (NnW w5 tb0 pb p2 c2 nb nc ob g tg tp tc pc pp ns a)) (h0 : 0 < ns.length) (h7 : ns.length ≤ 70000) (HN : Hid (∀ i, i < ns.length → NumAt ns a.1 a.2.1 a.2.2 i)) (K : Act → World → Prop) (R : Ending → World → Prop) (c0 c1 c4 c6 c11 c12 c13 c14 c15 c16 c17 c18 c19 c20 c21 c22 c23 c24 c25 c26 c27 c28 c29 c30 c31 c32 c33 c34 c35 c36 c37 c38 c39 c40 c41 c42 c43 c44 c45 c46 c47 c48 c49 c50 c163 c164 c165 c166 c167 c168 c169 c170 c171 c172 : Value) (hK : ∀ (l : List Value) (wr : World), fits (nnMask tb0 pb c0 c1 c4 c6 c11 c12 c13 c14 c15 c16 c17 c18 c19 c20 c21 c22 c23 c24 c25 c26 c27 c28 c29 c30 c31 c32 c33 c34 c35 c36 c37 c38 c39 c40 c41 c42 c43 c44 c45 c46 c47 c48 c49 c50 c163 c164 c165 c166 c167 c168 c169 c170 c171 c172) l → Hid (Below w5.heap.size w5 wr) → K { tmps := l.toArray, defers := [] } wr) (ac : Act) (wr : World) (hI : NnI ns a.2.2 w5 (nnMask tb0 pb c0 c1 c4 c6 c11 c12 c13 c14 c15 c16 c17 c18 c19 c20 c21 c22 c23 c24 c25 c26 c27 c28 c29 c30 c31 c32 c33 c34 c35 c36 c37 c38 c39 c40 c41 c42 c43 c44 c45 c46 c47 c48 c49 c50 c163 c164 c165 c166 c167 c168 c169 c170 c171 c172) ac wr) :
    Code.wp Tryz.prog nnBody (Exit.then (fun a' w' => NnI ns a.2.2 w5 (nnMask tb0 pb c0 c1 c4 c6 c11 c12 c13 c14 c15 c16 c17 c18 c19 c20 c21 c22 c23 c24 c25 c26 c27 c28 c29 c30 c31 c32 c33 c34 c35 c36 c37 c38 c39 c40 c41 c42 c43 c44 c45 c46 c47 c48 c49 c50 c163 c164 c165 c166 c167 c168 c169 c170 c171 c172) a' w' ∧ nnMu ns a' w' < nnMu ns ac wr) (Exit.inBlock 0 (Exit.then K (bodyPost Tryz.prog Tryz.f12 R)))) ac wr := by
  obtain ⟨⟨l⟩, ds⟩ := ac
  obtain ⟨e, hf, i, hi, h8, h9, HB⟩ := hI
  cases e
  have hmu : nnMu ns { tmps := ⟨l⟩, defers := [] } wr = ns.length - i := by
    unfold nnMu
    rw [show ({ tmps := ⟨l⟩, defers := [] } : Act).tmps.getD 8 undef = .int .i64 (i : Int) from h8]
    simp [intOf]
  rw [hmu]
  clear hmu
  revert h8 h9
  refine nn_open tb0 pb c0 c1 c4 c6 c11 c12 c13 c14 c15 c16 c17 c18 c19 c20 c21 c22 c23 c24 c25 c26 c27 c28 c29 c30 c31 c32 c33 c34 c35 c36 c37 c38 c39 c40 c41 c42 c43 c44 c45 c46 c47 c48 c49 c50 c163 c164 c165 c166 c167 c168 c169 c170 c171 c172 (P := fun l => (Act.tmps { tmps := l.toArray, defers := [] }).getD 8 undef = .int .i64 (i : Int) → (Act.tmps { tmps := l.toArray, defers := [] }).getD 7 undef = .int .i64 (inAt ns a.2.2 i) → Code.wp Tryz.prog nnBody (Exit.then (fun a' w' => NnI ns a.2.2 w5 (nnMask tb0 pb c0 c1 c4 c6 c11 c12 c13 c14 c15 c16 c17 c18 c19 c20 c21 c22 c23 c24 c25 c26 c27 c28 c29 c30 c31 c32 c33 c34 c35 c36 c37 c38 c39 c40 c41 c42 c43 c44 c45 c46 c47 c48 c49 c50 c163 c164 c165 c166 c167 c168 c169 c170 c171 c172) a' w' ∧ nnMu ns a' w' < ns.length - i) (Exit.inBlock 0 (Exit.then K (bodyPost Tryz.prog Tryz.f12 R)))) { tmps := l.toArray, defers := [] } wr) ?_ l hf
  intro u2 u7 u8 u9 u10 u51 u52 u53 u54 u55 u56 u57 u58 u59 u60 u61 u62 u63 u64 u65 u66 u67 u68 u69 u70 u71 u72 u73 u74 u75 u76 u77 u78 u79 u80 u81 u82 u83 u84 u85 u86 u87 u88 u89 u90 u91 u92 u93 u94 u95 u96 u97 u98 u99 u100 u101 u102 u103 u104 u105 u106 u107 u108 u109 u110 u111 u112 u113 u114 u115 u116 u117 u118 u119 u120 u121 u122 u123 u124 u125 u126 u127 u128 u129 u130 u131 u132 u133 u134 u135 u136 u137 u138 u139 u140 u141 u142 u143 u144 u145 u146 u147 u148 u149 u150 u151 u152 u153 u154 u155 u156 u157 u158 u159 u160 u161 u162 h8 h9
  obtain rfl : u8 = .int .i64 (i : Int) := h8
  obtain rfl : u7 = .int .i64 (inAt ns a.2.2 i) := h9
  by_cases hlt : i < ns.length
  · by_cases h3 : (nd ns i).kind = 3
    · exact nn_three w5 wr tb0 pb p2 c2 nb nc ob g tg tp tc pc pp ns a NH HB h0 h7 HN i hi hlt h3 K R c0 c1 c4 c6 c11 c12 c13 c14 c15 c16 c17 c18 c19 c20 c21 c22 c23 c24 c25 c26 c27 c28 c29 c30 c31 c32 c33 c34 c35 c36 c37 c38 c39 c40 c41 c42 c43 c44 c45 c46 c47 c48 c49 c50 c163 c164 c165 c166 c167 c168 c169 c170 c171 c172 u2 u9 u10 u51 u52 u53 u54 u55 u56 u57 u58 u59 u60 u61 u62 u63 u64 u65 u66 u67 u68 u69 u70 u71 u72 u73 u74 u75 u76 u77 u78 u79 u80 u81 u82 u83 u84 u85 u86 u87 u88 u89 u90 u91 u92 u93 u94 u95 u96 u97 u98 u99 u100 u101 u102 u103 u104 u105 u106 u107 u108 u109 u110 u111 u112 u113 u114 u115 u116 u117 u118 u119 u120 u121 u122 u123 u124 u125 u126 u127 u128 u129 u130 u131 u132 u133 u134 u135 u136 u137 u138 u139 u140 u141 u142 u143 u144 u145 u146 u147 u148 u149 u150 u151 u152 u153 u154 u155 u156 u157 u158 u159 u160 u161 u162
    by_cases h2 : (nd ns i).kind = 2 ∨ (nd ns i).kind = 20
    · exact nn_two w5 wr tb0 pb p2 c2 nb nc ob g tg tp tc pc pp ns a NH HB h0 h7 HN i hi hlt h2 K R c0 c1 c4 c6 c11 c12 c13 c14 c15 c16 c17 c18 c19 c20 c21 c22 c23 c24 c25 c26 c27 c28 c29 c30 c31 c32 c33 c34 c35 c36 c37 c38 c39 c40 c41 c42 c43 c44 c45 c46 c47 c48 c49 c50 c163 c164 c165 c166 c167 c168 c169 c170 c171 c172 u2 u9 u10 u51 u52 u53 u54 u55 u56 u57 u58 u59 u60 u61 u62 u63 u64 u65 u66 u67 u68 u69 u70 u71 u72 u73 u74 u75 u76 u77 u78 u79 u80 u81 u82 u83 u84 u85 u86 u87 u88 u89 u90 u91 u92 u93 u94 u95 u96 u97 u98 u99 u100 u101 u102 u103 u104 u105 u106 u107 u108 u109 u110 u111 u112 u113 u114 u115 u116 u117 u118 u119 u120 u121 u122 u123 u124 u125 u126 u127 u128 u129 u130 u131 u132 u133 u134 u135 u136 u137 u138 u139 u140 u141 u142 u143 u144 u145 u146 u147 u148 u149 u150 u151 u152 u153 u154 u155 u156 u157 u158 u159 u160 u161 u162
    by_cases hv : (nd ns i).kind = 22 ∨ (nd ns i).kind = 7 ∨ (nd ns i).kind = 11 ∨ (nd ns i).kind = 16 ∨ (nd ns i).kind = 15
    · exact nn_var w5 wr tb0 pb p2 c2 nb nc ob g tg tp tc pc pp ns a NH HB h0 h7 HN i hi hlt hv K R c0 c1 c4 c6 c11 c12 c13 c14 c15 c16 c17 c18 c19 c20 c21 c22 c23 c24 c25 c26 c27 c28 c29 c30 c31 c32 c33 c34 c35 c36 c37 c38 c39 c40 c41 c42 c43 c44 c45 c46 c47 c48 c49 c50 c163 c164 c165 c166 c167 c168 c169 c170 c171 c172 u2 u9 u10 u51 u52 u53 u54 u55 u56 u57 u58 u59 u60 u61 u62 u63 u64 u65 u66 u67 u68 u69 u70 u71 u72 u73 u74 u75 u76 u77 u78 u79 u80 u81 u82 u83 u84 u85 u86 u87 u88 u89 u90 u91 u92 u93 u94 u95 u96 u97 u98 u99 u100 u101 u102 u103 u104 u105 u106 u107 u108 u109 u110 u111 u112 u113 u114 u115 u116 u117 u118 u119 u120 u121 u122 u123 u124 u125 u126 u127 u128 u129 u130 u131 u132 u133 u134 u135 u136 u137 u138 u139 u140 u141 u142 u143 u144 u145 u146 u147 u148 u149 u150 u151 u152 u153 u154 u155 u156 u157 u158 u159 u160 u161 u162
    · exact nn_rest w5 wr tb0 pb p2 c2 nb nc ob g tg tp tc pc pp ns a NH HB h0 h7 HN i hi hlt ⟨h3, h2, hv⟩ K R c0 c1 c4 c6 c11 c12 c13 c14 c15 c16 c17 c18 c19 c20 c21 c22 c23 c24 c25 c26 c27 c28 c29 c30 c31 c32 c33 c34 c35 c36 c37 c38 c39 c40 c41 c42 c43 c44 c45 c46 c47 c48 c49 c50 c163 c164 c165 c166 c167 c168 c169 c170 c171 c172 u2 u9 u10 u51 u52 u53 u54 u55 u56 u57 u58 u59 u60 u61 u62 u63 u64 u65 u66 u67 u68 u69 u70 u71 u72 u73 u74 u75 u76 u77 u78 u79 u80 u81 u82 u83 u84 u85 u86 u87 u88 u89 u90 u91 u92 u93 u94 u95 u96 u97 u98 u99 u100 u101 u102 u103 u104 u105 u106 u107 u108 u109 u110 u111 u112 u113 u114 u115 u116 u117 u118 u119 u120 u121 u122 u123 u124 u125 u126 u127 u128 u129 u130 u131 u132 u133 u134 u135 u136 u137 u138 u139 u140 u141 u142 u143 u144 u145 u146 u147 u148 u149 u150 u151 u152 u153 u154 u155 u156 u157 u158 u159 u160 u161 u162
  · obtain rfl : i = ns.length := by omega
    exact nn_exit w5 tb0 pb p2 c2 nb nc ob g tg tp tc pc pp ns a NH h0 h7 HN wr HB K R c0 c1 c4 c6 c11 c12 c13 c14 c15 c16 c17 c18 c19 c20 c21 c22 c23 c24 c25 c26 c27 c28 c29 c30 c31 c32 c33 c34 c35 c36 c37 c38 c39 c40 c41 c42 c43 c44 c45 c46 c47 c48 c49 c50 c163 c164 c165 c166 c167 c168 c169 c170 c171 c172 u2 u9 u10 u51 u52 u53 u54 u55 u56 u57 u58 u59 u60 u61 u62 u63 u64 u65 u66 u67 u68 u69 u70 u71 u72 u73 u74 u75 u76 u77 u78 u79 u80 u81 u82 u83 u84 u85 u86 u87 u88 u89 u90 u91 u92 u93 u94 u95 u96 u97 u98 u99 u100 u101 u102 u103 u104 u105 u106 u107 u108 u109 u110 u111 u112 u113 u114 u115 u116 u117 u118 u119 u120 u121 u122 u123 u124 u125 u126 u127 u128 u129 u130 u131 u132 u133 u134 u135 u136 u137 u138 u139 u140 u141 u142 u143 u144 u145 u146 u147 u148 u149 u150 u151 u152 u153 u154 u155 u156 u157 u158 u159 u160 u161 u162 hK
set_option maxHeartbeats 16000000 in
set_option maxRecDepth 1000000 in
theorem nn_loop (w5 : World) (tb0 pb : Nat) (p2 : Option Addr) (c2 nb nc ob g tg : Nat) (tp : Option Addr) (tc pc : Nat) (pp : Option Addr) (ns : List Nd) (a : List Tb × List Pr × List Int) (NH : Hid (NnW w5 tb0 pb p2 c2 nb nc ob g tg tp tc pc pp ns a)) (h0 : 0 < ns.length) (h7 : ns.length ≤ 70000) (HN : Hid (∀ i, i < ns.length → NumAt ns a.1 a.2.1 a.2.2 i)) (K : Act → World → Prop) (R : Ending → World → Prop) (c0 c1 c4 c6 c11 c12 c13 c14 c15 c16 c17 c18 c19 c20 c21 c22 c23 c24 c25 c26 c27 c28 c29 c30 c31 c32 c33 c34 c35 c36 c37 c38 c39 c40 c41 c42 c43 c44 c45 c46 c47 c48 c49 c50 c163 c164 c165 c166 c167 c168 c169 c170 c171 c172 u2 u9 u10 u51 u52 u53 u54 u55 u56 u57 u58 u59 u60 u61 u62 u63 u64 u65 u66 u67 u68 u69 u70 u71 u72 u73 u74 u75 u76 u77 u78 u79 u80 u81 u82 u83 u84 u85 u86 u87 u88 u89 u90 u91 u92 u93 u94 u95 u96 u97 u98 u99 u100 u101 u102 u103 u104 u105 u106 u107 u108 u109 u110 u111 u112 u113 u114 u115 u116 u117 u118 u119 u120 u121 u122 u123 u124 u125 u126 u127 u128 u129 u130 u131 u132 u133 u134 u135 u136 u137 u138 u139 u140 u141 u142 u143 u144 u145 u146 u147 u148 u149 u150 u151 u152 u153 u154 u155 u156 u157 u158 u159 u160 u161 u162 : Value) (hK : ∀ (l : List Value) (wr : World), fits (nnMask tb0 pb c0 c1 c4 c6 c11 c12 c13 c14 c15 c16 c17 c18 c19 c20 c21 c22 c23 c24 c25 c26 c27 c28 c29 c30 c31 c32 c33 c34 c35 c36 c37 c38 c39 c40 c41 c42 c43 c44 c45 c46 c47 c48 c49 c50 c163 c164 c165 c166 c167 c168 c169 c170 c171 c172) l → Hid (Below w5.heap.size w5 wr) → K { tmps := l.toArray, defers := [] } wr) :
    Code.wp Tryz.prog (.loop nnBody) (Exit.inBlock 0 (Exit.then K (bodyPost Tryz.prog Tryz.f12 R))) { tmps := ((c0 :: c1 :: u2 :: .pointer (some ⟨tb0, 0, none⟩) :: c4 :: .pointer (some ⟨pb, 0, none⟩) :: c6 :: .int .i64 (-1) :: .int .i64 0 :: u9 :: u10 :: c11 :: c12 :: c13 :: c14 :: c15 :: c16 :: c17 :: c18 :: c19 :: c20 :: c21 :: c22 :: c23 :: c24 :: c25 :: c26 :: c27 :: c28 :: c29 :: c30 :: c31 :: c32 :: c33 :: c34 :: c35 :: c36 :: c37 :: c38 :: c39 :: c40 :: c41 :: c42 :: c43 :: c44 :: c45 :: c46 :: c47 :: c48 :: c49 :: c50 :: u51 :: u52 :: u53 :: u54 :: u55 :: u56 :: u57 :: u58 :: u59 :: u60 :: u61 :: u62 :: u63 :: u64 :: u65 :: u66 :: u67 :: u68 :: u69 :: u70 :: u71 :: u72 :: u73 :: u74 :: u75 :: u76 :: u77 :: u78 :: u79 :: u80 :: u81 :: u82 :: u83 :: u84 :: u85 :: u86 :: u87 :: u88 :: u89 :: u90 :: u91 :: u92 :: u93 :: u94 :: u95 :: u96 :: u97 :: u98 :: u99 :: u100 :: u101 :: u102 :: u103 :: u104 :: u105 :: u106 :: u107 :: u108 :: u109 :: u110 :: u111 :: u112 :: u113 :: u114 :: u115 :: u116 :: u117 :: u118 :: u119 :: u120 :: u121 :: u122 :: u123 :: u124 :: u125 :: u126 :: u127 :: u128 :: u129 :: u130 :: u131 :: u132 :: u133 :: u134 :: u135 :: u136 :: u137 :: u138 :: u139 :: u140 :: u141 :: u142 :: u143 :: u144 :: u145 :: u146 :: u147 :: u148 :: u149 :: u150 :: u151 :: u152 :: u153 :: u154 :: u155 :: u156 :: u157 :: u158 :: u159 :: u160 :: u161 :: u162 :: c163 :: c164 :: c165 :: c166 :: c167 :: c168 :: c169 :: c170 :: c171 :: c172 :: [])).toArray, defers := [] } w5 := by
  refine wp_loop (NnI ns a.2.2 w5 (nnMask tb0 pb c0 c1 c4 c6 c11 c12 c13 c14 c15 c16 c17 c18 c19 c20 c21 c22 c23 c24 c25 c26 c27 c28 c29 c30 c31 c32 c33 c34 c35 c36 c37 c38 c39 c40 c41 c42 c43 c44 c45 c46 c47 c48 c49 c50 c163 c164 c165 c166 c167 c168 c169 c170 c171 c172)) (nnMu ns) ?_ (fun ac wr hI => nn_round w5 tb0 pb p2 c2 nb nc ob g tg tp tc pc pp ns a NH h0 h7 HN K R c0 c1 c4 c6 c11 c12 c13 c14 c15 c16 c17 c18 c19 c20 c21 c22 c23 c24 c25 c26 c27 c28 c29 c30 c31 c32 c33 c34 c35 c36 c37 c38 c39 c40 c41 c42 c43 c44 c45 c46 c47 c48 c49 c50 c163 c164 c165 c166 c167 c168 c169 c170 c171 c172 hK ac wr hI)
  unfold NnI
  refine ⟨rfl, ?_, 0, Nat.zero_le _, rfl, rfl, Lib.hid (Below.refl _ _)⟩
  unfold nnMask; simp only [fits, and_self]
end Go.Proofs.YthdioipfdbbmmaaGreatDoor.Nm
namespace Go.Proofs.YthdioipfdbbmmaaGreatDoor.Nm
open Go.RowKit Go.Maps Tr Par
set_option maxHeartbeats 16000000 in
set_option maxRecDepth 1000000 in
theorem nn_main (w : World) (p : Option Addr) (len c : Nat) (xs : List Int) (hs : Src w p len c xs) (hg : ET w) (hl : len ≤ 1500) (ns : List Nd) (hp : parseS xs = .ok ns) (hr : rightP ns = true) (hS : SmallT ns) (a : List Tb × List Pr × List Int) (hw : whole ns = .ok a) :
    Calls Tryz.prog 12 #[.slice p len c] w fun e w' => e = .returned (.bool true) ∧ Below w.heap.size w w' := by
  have PA := parse_at w p len c xs hs (by omega)
  have PAH := Lib.hid PA
  obtain ⟨S, rt⟩ := rt_of hr (fun x hx => by have := (hS.each x hx).1; omega)
  obtain ⟨hof, hnum⟩ := whole_num rt (tabs := a.1) (ps := a.2.1) (of := a.2.2) hw
  have h0 := rt.pos
  have h7 := hS.len
  have HP := Lib.hid hp
  have HG := Lib.hid hg
  have HS := Lib.hid hs
  have HR := Lib.hid hr
  have HSM := Lib.hid hS
  have HW := Lib.hid hw
  have HN := Lib.hid hnum
  clear hs hg hp PA hr hS hw rt hnum
  go_enter Tryz.func12, Tryz.ntmps12
  go_wp2_with fail
  (with_reducible refine PAH.out.mono ?_)
  rintro e w2 ⟨hb2, hm⟩
  rw [HP.out] at hm
  obtain ⟨p2, len2, c2, rfl, hT⟩ := hm
  obtain rfl : ns.length = len2 := hT.len_eq
  have hb3 := one_below w2 (.cells #[.slice p2 ns.length c2] 39)
  have h3 := hb2.trans (hb3.mono hb2.size)
  have hT3 := hT.on hb3
  have RS := Lib.hid (resolve_run (w2.alloc (.cells #[.slice p2 ns.length c2] 39)) p len c xs p2 ns.length c2 ns (HS.out.below h3) (by omega) hT3 HSM.out HR.out)
  have H3 := Lib.hid h3
  have T3 := Lib.hid hT3
  have hs3 : (w2.alloc (.cells #[.slice p2 ns.length c2] 39)).heap.size = w2.heap.size + 1 := size_al _ _
  have ct : (w2.alloc (.cells #[.slice p2 ns.length c2] 39)).cell? ⟨w2.heap.size, 0, none⟩ = some (.slice p2 ns.length c2) := by rw [cell_of_row _ _ _ _ _ _ (heap_al _ _ _ rfl)]; rfl
  have CT := Lib.hid ct
  clear hT hb2 hb3 h3 PAH hT3 ct
  go_wp2_with fail
  (with_reducible refine RS.out.mono ?_)
  rintro e w4 ⟨hb4, hm⟩
  rw [HW.out] at hm
  obtain ⟨base, nb, nc, ob, tv, pv, tcv, pvv, _, _, _, rfl, hPG⟩ := hm
  have h4 := H3.out.trans (hb4.mono H3.out.size)
  obtain ⟨tp, tc, rfl, htc, htr⟩ := hPG.tabs
  obtain ⟨pp, pc, rfl, hpc, hpr⟩ := hPG.procs
  have hb5 := one_below w4 (.cells #[.slice (some ⟨nb, 0, none⟩) ns.length nc, .slice tp a.1.length tc, .slice pp a.2.1.length pc, .slice (some ⟨ob, 0, none⟩) ns.length ns.length] 65)
  have h5 := h4.trans (hb5.mono h4.size)
  obtain ⟨g, hgp⟩ : ∃ g, ∀ j pr, a.2.1[j]? = some pr → pp = some ⟨g, 0, none⟩ ∧ g < w4.heap.size ∧ ∃ vp vc, PrAt w4 g j pr vp vc := by
    by_cases h1 : 0 < a.2.1.length
    · obtain ⟨g, e, hgl, hq⟩ := hpr h1
      exact ⟨g, fun j pr hj => ⟨e, hgl, hq j pr hj⟩⟩
    · exact ⟨0, fun j pr hj => by have := (List.getElem?_eq_some_iff.1 hj).1; omega⟩
  obtain ⟨tg, htg⟩ : ∃ tg, ∀ j t, a.1[j]? = some t → tp = some ⟨tg, 0, none⟩ ∧ tg < w4.heap.size ∧ ∃ vp vc, TbAt w4 tg j t vp vc := by
    by_cases h1 : 0 < a.1.length
    · obtain ⟨g, e, hgl, hq⟩ := htr h1
      exact ⟨g, fun j pr hj => ⟨e, hgl, hq j pr hj⟩⟩
    · exact ⟨0, fun j pr hj => by have := (List.getElem?_eq_some_iff.1 hj).1; omega⟩
  obtain ⟨bo, oo, eo, hol, hoc⟩ := hPG.of.cell h0
  obtain ⟨rfl, rfl⟩ : ob = bo ∧ 0 = oo := by cases eo; exact ⟨rfl, rfl⟩
  have N5 : NnW (w4.alloc (.cells #[.slice (some ⟨nb, 0, none⟩) ns.length nc, .slice tp a.1.length tc, .slice pp a.2.1.length pc, .slice (some ⟨ob, 0, none⟩) ns.length ns.length] 65)) w2.heap.size w4.heap.size p2 c2 nb nc ob g tg tp tc pc pp ns a := by
    have ht4 : w4.cell? ⟨w2.heap.size, 0, none⟩ = some (.slice p2 ns.length c2) := by rw [hb4.cell (p := ⟨w2.heap.size, 0, none⟩) (by rw [hs3]; exact Nat.lt_succ_self _)]; exact CT.out
    have hl4 : w2.heap.size < w4.heap.size := by have := hb4.size; omega
    refine ⟨by rw [hb5.cell (p := ⟨w2.heap.size, 0, none⟩) hl4]; exact ht4, (T3.out.on hb4).on hb5, heap_al _ _ _ rfl, fun i hi => ?_, htc, hpc, fun j pr hj => ?_, fun j t hj => ?_, by rw [size_al]; omega, fun _ => by rw [size_al]; omega⟩
    · rw [hb5.cell (p := ⟨ob, i, none⟩) hol]
      have := hoc i hi
      rw [Nat.zero_add] at this
      exact this
    · obtain ⟨e, hgl, vp, vc, hq⟩ := hgp j pr hj
      exact ⟨e, by rw [size_al]; omega, vp, vc, hq.on hgl hb5⟩
    · obtain ⟨e, hgl, vp, vc, hq⟩ := htg j t hj
      exact ⟨e, by rw [size_al]; omega, vp, vc, ⟨by rw [hb5.cell (p := ⟨tg, j * 2, none⟩) hgl]; exact hq.c0, by rw [hb5.cell (p := ⟨tg, j * 2 + 1, none⟩) hgl]; exact hq.c1, hq.tx.on hb5⟩⟩
  have NH := Lib.hid N5
  have H5 := Lib.hid h5
  have HG5 := Lib.hid (HG.out.below h5)
  clear hPG hb4 hb5 h4 h5 RS H3 T3 CT htr hpr hgp htg hoc N5 eo
  go_wp2_with fail
  obtain ⟨w5, hw5⟩ : ∃ w5, w4.alloc (.cells #[.slice (some ⟨nb, 0, none⟩) ns.length nc, .slice tp a.1.length tc, .slice pp a.2.1.length pc, .slice (some ⟨ob, 0, none⟩) ns.length ns.length] 65) = w5 := ⟨_, rfl⟩
  rw [hw5] at NH H5 HG5
  rw [hw5]
  clear hw5
  rename_i K hKr
  have HKR := Lib.hid hKr
  clear hKr
  refine nn_loop w5 w2.heap.size w4.heap.size p2 c2 nb nc ob g tg tp tc pc pp ns a NH h0 h7 HN K _ _ _ _ _ _ _ _ _ _ _ _ _ _ _ _ _ _ _ _ _ _ _ _ _ _ _ _ _ _ _ _ _ _ _ _ _ _ _ _ _ _ _ _ _ _ _ _ _ _ _ _ _ _ _ _ _ _ _ _ _ _ _ _ _ _ _ _ _ _ _ _ _ _ _ _ _ _ _ _ _ _ _ _ _ _ _ _ _ _ _ _ _ _ _ _ _ _ _ _ _ _ _ _ _ _ _ _ _ _ _ _ _ _ _ _ _ _ _ _ _ _ _ _ _ _ _ _ _ _ _ _ _ _ _ _ _ _ _ _ _ _ _ _ _ _ _ _ _ _ _ _ _ _ _ _ _ _ _ _ _ _ _ _ _ _ _ _ _ _ ?_
  intro l wr hf HB
  refine HKR.out _ _ ?_
  revert hf
  refine fun hf => nn_open _ _ _ _ _ _ _ _ _ _ _ _ _ _ _ _ _ _ _ _ _ _ _ _ _ _ _ _ _ _ _ _ _ _ _ _ _ _ _ _ _ _ _ _ _ _ _ _ _ _ _ _ _ _ _ _ (P := fun l => Code.wp Tryz.prog _ _ { tmps := l.toArray, defers := [] } wr) ?_ l hf
  intro u2 u7 u8 u9 u10 u51 u52 u53 u54 u55 u56 u57 u58 u59 u60 u61 u62 u63 u64 u65 u66 u67 u68 u69 u70 u71 u72 u73 u74 u75 u76 u77 u78 u79 u80 u81 u82 u83 u84 u85 u86 u87 u88 u89 u90 u91 u92 u93 u94 u95 u96 u97 u98 u99 u100 u101 u102 u103 u104 u105 u106 u107 u108 u109 u110 u111 u112 u113 u114 u115 u116 u117 u118 u119 u120 u121 u122 u123 u124 u125 u126 u127 u128 u129 u130 u131 u132 u133 u134 u135 u136 u137 u138 u139 u140 u141 u142 u143 u144 u145 u146 u147 u148 u149 u150 u151 u152 u153 u154 u155 u156 u157 u158 u159 u160 u161 u162
  have NR := NH.out.on HB.out
  have ct := NR.tree
  have b3 := NR.box.c3
  have WK := Lib.hid (works7_at wr ((HG5.out.below HB.out)))
  clear NR hf
  go_wp2_with fail
  (with_reducible refine WK.out.mono ?_)
  rintro e w9 ⟨rfl, hb9⟩
  have HB9 := Lib.hid (H5.out.trans ((HB.out.trans (hb9.mono HB.out.size)).mono H5.out.size))
  clear hb9 WK ct b3
  go_wp2
  go_ret
  exact ⟨rfl, HB9.out⟩
end Go.Proofs.YthdioipfdbbmmaaGreatDoor.Nm
