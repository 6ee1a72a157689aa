/- Walks of TupleBack, TupleThere, TupleAlike, TupleSlots. -/
import Derived.Test.YthcpmcpgbipgoaaUAwake
import Derived.Test.YthcpmcpgbipgoaaUSlot
namespace Go.Proofs.Ythcpmcpgbipgoaa
open Go.RowKit

abbrev Ret (f : Nat) (args : Array Value) (v : Value) : Prop := ∀ W, Calls Try.prog f args W fun e w' => e = .returned v ∧ Only (fun _ => False) W w'
theorem outK_some (k : ByteArray) : outK (some k) = .tuple #[.string k, .bool true] := rfl
theorem outK_none : outK none = .tuple #[.string ⟨#[]⟩, .bool false] := rfl
theorem outT_some (t : Tu) : outT (some t) = .tuple #[.agg #[.int .i64 t.xmin, .int .i64 t.xmax, .bool t.frozen, .string t.key, .string t.value], .int .i64 0] := rfl
theorem outT_none : outT none = .tuple #[.agg #[.int .i64 0, .int .i64 0, .bool false, .string ⟨#[]⟩, .string ⟨#[]⟩], .int .i64 110] := rfl
theorem key_enc {t : Tu} (h : t.ok = true) : keyT t.enc = some t.key := by unfold keyT; rw [dec_encT h]
theorem key_dead {k : ByteArray} (h : okK k = true) : keyT (dlay k) = some k := by unfold keyT; rw [dead_dec (dead_lay h)]; exact dead_lay h
theorem Tu.extL {a b : Tu} (h1 : a.xmin = b.xmin) (h2 : a.xmax = b.xmax) (h3 : a.frozen = b.frozen) (h4 : a.key.toList = b.key.toList) (h5 : a.value.toList = b.value.toList) : a = b := by
  have e : ∀ s t : ByteArray, s.toList = t.toList → s = t := fun s t h => by
    rw [ByteArray.toList_eq, ByteArray.toList_eq] at h
    exact ByteArray.ext (Array.toList_inj.1 h)
  exact Tu.ext' h1 h2 h3 (e _ _ h4) (e _ _ h5)
theorem ret_enc (t : Tu) (h0 : -9223372036854775808 ≤ t.xmin ∧ t.xmin < 9223372036854775808) (h1 : -9223372036854775808 ≤ t.xmax ∧ t.xmax < 9223372036854775808) : Ret 9 #[.agg #[.int .i64 t.xmin, .int .i64 t.xmax, .bool t.frozen, .string t.key, .string t.value]] (.tuple #[.string (str t.out), .int .i64 t.err]) := fun W => uencode_any t W h0 h1
theorem ret_dec (l : List UInt8) : Ret 15 #[.string (str l)] (outT (decT l)) := fun W => udecode_any (str l) W
theorem ret_key (l : List UInt8) : Ret 17 #[.string (str l)] (outK (keyT l)) := fun W => ukey_any (str l) W
theorem ret_state (l : List UInt8) : Ret 19 #[.string (str l)] (.int .u8 (stT l)) := fun W => ustate_any (str l) W
theorem ret_dead (k : ByteArray) : Ret 11 #[.string k] (.tuple #[.string (str (dOut k)), .int .i64 (dErr k)]) := fun W => udead_any k W
theorem ret_awake : Ret 14 #[] (.bool true) := fun W => uawake_any W
theorem ret_free : Ret 13 #[] (.string ⟨#[]⟩) := fun W => (ufree_any W).mono fun _ _ h => ⟨h.1, by rw [h.2]; exact Only.refl _ _⟩
set_option maxRecDepth 100000 in
set_option maxHeartbeats 3200000 in
theorem back_ok (w : World) (t : Tu) (h0 : -9223372036854775808 ≤ t.xmin ∧ t.xmin < 9223372036854775808) (h1 : -9223372036854775808 ≤ t.xmax ∧ t.xmax < 9223372036854775808) (hok : t.ok = true) :
    Calls Try.prog 5 #[.agg #[.int .i64 t.xmin, .int .i64 t.xmax, .bool t.frozen, .string t.key, .string t.value]] w fun e w' => e = .returned (.bool true) ∧ Only (fun _ => False) w w' := by
  have HAW := hide ret_awake
  have HE := hide (ret_enc t h0 h1)
  have HD := hide (ret_dead t.key)
  have HB := hide (Tb.new w t)
  have HO := hide (onlyA w (.cells #[.int .i64 t.xmin, .int .i64 t.xmax, .bool t.frozen, .string t.key, .string t.value] 23))
  have hk := Tu.ok_key hok
  have HDC := hide (ret_dec t.enc)
  have HKS := hide (ret_key t.enc)
  have HSS := hide (ret_state t.enc)
  have hlen := enc_lenT hok
  have hoi := Tu.ok_iff.1 hok
  rw [show t.out = t.enc by unfold Tu.out; rw [hok]; rfl, show t.err = 0 by unfold Tu.err; rw [hok]; rfl] at HE
  rw [dec_encT hok, outT_some] at HDC
  rw [key_enc hok, outK_some] at HKS
  rw [st_enc hok] at HSS
  obtain ⟨Ee, hEe⟩ : ∃ D, str t.enc = D := ⟨_, rfl⟩
  have h95 : (Ee.size : Int) ≤ 95 := by rw [← hEe, str_size]; omega
  rw [hEe] at HE HDC HKS HSS
  clear hEe hlen hoi hok
  have HKD := hide (ret_key (dlay t.key))
  have HSD := hide (ret_state (dlay t.key))
  rw [show dOut t.key = dlay t.key by unfold dOut; rw [hk]; rfl, show dErr t.key = 0 by unfold dErr; rw [hk]; rfl] at HD
  rw [key_dead hk, outK_some] at HKD
  rw [st_dead hk] at HSD
  obtain ⟨Dd, hDd⟩ : ∃ D, str (dlay t.key) = D := ⟨_, rfl⟩
  rw [hDd] at HD HKD HSD
  clear hDd hk
  clear h0 h1
  go_enter Try.func5, Try.ntmps5
  go_wp2_with fail
  refine (HE.out _).mono ?_
  rintro e x1 ⟨rfl, ho⟩
  have HB := hide (HB.out.more ho)
  have HO := hide (o2 HO.out ho)
  clear ho
  have c0 := HB.out.c0
  have c1 := HB.out.c1
  have c2 := HB.out.c2
  have c3 := HB.out.c3
  have c4 := HB.out.c4
  go_wp2_with fail
  refine (HD.out _).mono ?_
  rintro e x2 ⟨rfl, ho⟩
  have HB := hide (HB.out.more ho)
  have HO := hide (o2 HO.out ho)
  clear ho c0 c1 c2 c3 c4
  have c0 := HB.out.c0
  have c1 := HB.out.c1
  have c2 := HB.out.c2
  have c3 := HB.out.c3
  have c4 := HB.out.c4
  go_wp2_with fail
  refine (HKD.out _).mono ?_
  rintro e x3 ⟨rfl, ho⟩
  have HB := hide (HB.out.more ho)
  have HO := hide (o2 HO.out ho)
  clear ho c0 c1 c2 c3 c4
  have c0 := HB.out.c0
  have c1 := HB.out.c1
  have c2 := HB.out.c2
  have c3 := HB.out.c3
  have c4 := HB.out.c4
  go_wp2_with fail
  refine (HSD.out _).mono ?_
  rintro e x4 ⟨rfl, ho⟩
  have HB := hide (HB.out.more ho)
  have HO := hide (o2 HO.out ho)
  clear ho c0 c1 c2 c3 c4
  have c0 := HB.out.c0
  have c1 := HB.out.c1
  have c2 := HB.out.c2
  have c3 := HB.out.c3
  have c4 := HB.out.c4
  go_wp2_with fail
  refine (HDC.out _).mono ?_
  rintro e x5 ⟨rfl, ho⟩
  have HB := hide (HB.out.more ho)
  have HO := hide (o2 HO.out ho)
  clear ho c0 c1 c2 c3 c4
  have c0 := HB.out.c0
  have c1 := HB.out.c1
  have c2 := HB.out.c2
  have c3 := HB.out.c3
  have c4 := HB.out.c4
  have HT := hide (Tb.new x5 t)
  have HB := hide (HB.out.more (onlyA x5 (.cells #[.int .i64 t.xmin, .int .i64 t.xmax, .bool t.frozen, .string t.key, .string t.value] 23)))
  have HO := hide (o2 HO.out (onlyA x5 (.cells #[.int .i64 t.xmin, .int .i64 t.xmax, .bool t.frozen, .string t.key, .string t.value] 23)))
  go_wp2_with fail
  refine (HKS.out _).mono ?_
  rintro e x6 ⟨rfl, ho⟩
  have HB := hide (HB.out.more ho)
  have HT := hide (HT.out.more ho)
  have HO := hide (o2 HO.out ho)
  clear ho c0 c1 c2 c3 c4
  have c0 := HB.out.c0
  have c1 := HB.out.c1
  have c2 := HB.out.c2
  have c3 := HB.out.c3
  have c4 := HB.out.c4
  have d0 := HT.out.c0
  have d1 := HT.out.c1
  have d2 := HT.out.c2
  have d3 := HT.out.c3
  have d4 := HT.out.c4
  go_wp2_with fail
  refine (HSS.out _).mono ?_
  rintro e x7 ⟨rfl, ho⟩
  have HB := hide (HB.out.more ho)
  have HT := hide (HT.out.more ho)
  have HO := hide (o2 HO.out ho)
  clear ho
  go_wp2_with fail
  refine (HAW.out _).mono ?_
  rintro e x8 ⟨rfl, ho⟩
  have HO := hide (o2 HO.out ho)
  clear ho
  go_wp2_with fail
  go_ret
  exact ⟨rfl, HO.out⟩
set_option maxRecDepth 100000 in
set_option maxHeartbeats 3200000 in
theorem back_bad1 (w : World) (t : Tu) (h0 : -9223372036854775808 ≤ t.xmin ∧ t.xmin < 9223372036854775808) (h1 : -9223372036854775808 ≤ t.xmax ∧ t.xmax < 9223372036854775808) (hok : t.ok = false) (hk : okK t.key = true) :
    Calls Try.prog 5 #[.agg #[.int .i64 t.xmin, .int .i64 t.xmax, .bool t.frozen, .string t.key, .string t.value]] w fun e w' => e = .returned (.bool true) ∧ Only (fun _ => False) w w' := by
  have HAW := hide ret_awake
  have HE := hide (ret_enc t h0 h1)
  have HD := hide (ret_dead t.key)
  have HB := hide (Tb.new w t)
  have HO := hide (onlyA w (.cells #[.int .i64 t.xmin, .int .i64 t.xmax, .bool t.frozen, .string t.key, .string t.value] 23))
  rw [show t.out = [] by unfold Tu.out; rw [hok]; rfl, show t.err = 110 by unfold Tu.err; rw [hok]; rfl] at HE
  rw [show str [] = ⟨#[]⟩ from rfl] at HE
  clear hok
  have HKD := hide (ret_key (dlay t.key))
  have HSD := hide (ret_state (dlay t.key))
  rw [show dOut t.key = dlay t.key by unfold dOut; rw [hk]; rfl, show dErr t.key = 0 by unfold dErr; rw [hk]; rfl] at HD
  rw [key_dead hk, outK_some] at HKD
  rw [st_dead hk] at HSD
  obtain ⟨Dd, hDd⟩ : ∃ D, str (dlay t.key) = D := ⟨_, rfl⟩
  rw [hDd] at HD HKD HSD
  clear hDd hk
  clear h0 h1
  go_enter Try.func5, Try.ntmps5
  go_wp2_with fail
  refine (HE.out _).mono ?_
  rintro e x1 ⟨rfl, ho⟩
  have HB := hide (HB.out.more ho)
  have HO := hide (o2 HO.out ho)
  clear ho
  have c0 := HB.out.c0
  have c1 := HB.out.c1
  have c2 := HB.out.c2
  have c3 := HB.out.c3
  have c4 := HB.out.c4
  go_wp2_with fail
  refine (HD.out _).mono ?_
  rintro e x2 ⟨rfl, ho⟩
  have HB := hide (HB.out.more ho)
  have HO := hide (o2 HO.out ho)
  clear ho c0 c1 c2 c3 c4
  have c0 := HB.out.c0
  have c1 := HB.out.c1
  have c2 := HB.out.c2
  have c3 := HB.out.c3
  have c4 := HB.out.c4
  go_wp2_with fail
  refine (HKD.out _).mono ?_
  rintro e x3 ⟨rfl, ho⟩
  have HB := hide (HB.out.more ho)
  have HO := hide (o2 HO.out ho)
  clear ho c0 c1 c2 c3 c4
  have c0 := HB.out.c0
  have c1 := HB.out.c1
  have c2 := HB.out.c2
  have c3 := HB.out.c3
  have c4 := HB.out.c4
  go_wp2_with fail
  refine (HSD.out _).mono ?_
  rintro e x4 ⟨rfl, ho⟩
  have HB := hide (HB.out.more ho)
  have HO := hide (o2 HO.out ho)
  clear ho c0 c1 c2 c3 c4
  have c0 := HB.out.c0
  have c1 := HB.out.c1
  have c2 := HB.out.c2
  have c3 := HB.out.c3
  have c4 := HB.out.c4
  go_wp2_with fail
  refine (HAW.out _).mono ?_
  rintro e x5 ⟨rfl, ho⟩
  have HO := hide (o2 HO.out ho)
  clear ho
  go_wp2_with fail
  go_ret
  exact ⟨rfl, HO.out⟩
set_option maxRecDepth 100000 in
set_option maxHeartbeats 3200000 in
theorem back_bad2 (w : World) (t : Tu) (h0 : -9223372036854775808 ≤ t.xmin ∧ t.xmin < 9223372036854775808) (h1 : -9223372036854775808 ≤ t.xmax ∧ t.xmax < 9223372036854775808) (hok : t.ok = false) (hk : okK t.key = false) :
    Calls Try.prog 5 #[.agg #[.int .i64 t.xmin, .int .i64 t.xmax, .bool t.frozen, .string t.key, .string t.value]] w fun e w' => e = .returned (.bool true) ∧ Only (fun _ => False) w w' := by
  have HAW := hide ret_awake
  have HE := hide (ret_enc t h0 h1)
  have HD := hide (ret_dead t.key)
  have HB := hide (Tb.new w t)
  have HO := hide (onlyA w (.cells #[.int .i64 t.xmin, .int .i64 t.xmax, .bool t.frozen, .string t.key, .string t.value] 23))
  rw [show t.out = [] by unfold Tu.out; rw [hok]; rfl, show t.err = 110 by unfold Tu.err; rw [hok]; rfl] at HE
  rw [show str [] = ⟨#[]⟩ from rfl] at HE
  clear hok
  rw [show dErr t.key = 110 by unfold dErr; rw [hk]; rfl] at HD
  clear hk
  clear h0 h1
  go_enter Try.func5, Try.ntmps5
  go_wp2_with fail
  refine (HE.out _).mono ?_
  rintro e x1 ⟨rfl, ho⟩
  have HB := hide (HB.out.more ho)
  have HO := hide (o2 HO.out ho)
  clear ho
  have c0 := HB.out.c0
  have c1 := HB.out.c1
  have c2 := HB.out.c2
  have c3 := HB.out.c3
  have c4 := HB.out.c4
  go_wp2_with fail
  refine (HD.out _).mono ?_
  rintro e x2 ⟨rfl, ho⟩
  have HB := hide (HB.out.more ho)
  have HO := hide (o2 HO.out ho)
  clear ho c0 c1 c2 c3 c4
  have c0 := HB.out.c0
  have c1 := HB.out.c1
  have c2 := HB.out.c2
  have c3 := HB.out.c3
  have c4 := HB.out.c4
  go_wp2_with fail
  refine (HAW.out _).mono ?_
  rintro e x3 ⟨rfl, ho⟩
  have HO := hide (o2 HO.out ho)
  clear ho
  go_wp2_with fail
  go_ret
  exact ⟨rfl, HO.out⟩
theorem back_law (w : World) (t : Tu) (h0 : -9223372036854775808 ≤ t.xmin ∧ t.xmin < 9223372036854775808) (h1 : -9223372036854775808 ≤ t.xmax ∧ t.xmax < 9223372036854775808) :
    Calls Try.prog 5 #[.agg #[.int .i64 t.xmin, .int .i64 t.xmax, .bool t.frozen, .string t.key, .string t.value]] w fun e w' => e = .returned (.bool true) ∧ Only (fun _ => False) w w' := by
  cases hok : t.ok
  · cases hk : okK t.key
    · exact back_bad2 w t h0 h1 hok hk
    · exact back_bad1 w t h0 h1 hok hk
  · exact back_ok w t h0 h1 hok
set_option maxRecDepth 100000 in
set_option maxHeartbeats 3200000 in
theorem there_live (w : World) (l : List UInt8) (t : Tu) (h : decT l = some t) :
    Calls Try.prog 6 #[.string (str l)] w fun e w' => e = .returned (.bool true) ∧ Only (fun _ => False) w w' := by
  have HAW := hide ret_awake
  have HF := hide ret_free
  have HD := hide (ret_dec l)
  have HK := hide (ret_key l)
  have HS := hide (ret_state l)
  have HO := hide (Only.refl (fun _ => False) w)
  obtain ⟨hok, henc, _⟩ := enc_decT h
  have hoi := Tu.ok_iff.1 hok
  have HE := hide (ret_enc t (by omega) (by omega))
  rw [show t.out = l by unfold Tu.out; rw [hok, if_pos rfl, henc], show t.err = 0 by unfold Tu.err; rw [hok]; rfl] at HE
  rw [h, outT_some] at HD
  rw [show keyT l = some t.key by rw [← henc]; exact key_enc hok, outK_some] at HK
  rw [show stT l = 3 by rw [← henc]; exact st_enc hok] at HS
  obtain ⟨S, hS⟩ : ∃ S, str l = S := ⟨_, rfl⟩
  rw [hS] at HD HK HS ⊢
  rw [hS] at HE
  clear hS h hok henc hoi
  go_enter Try.func6, Try.ntmps6
  go_wp2_with fail
  refine (HD.out _).mono ?_
  rintro e x1 ⟨rfl, ho⟩
  have HO := hide (o2 HO.out ho)
  clear ho
  have HB := hide (Tb.new x1 t)
  have HO := hide (o2 HO.out (onlyA x1 (.cells #[.int .i64 t.xmin, .int .i64 t.xmax, .bool t.frozen, .string t.key, .string t.value] 23)))
  go_wp2_with fail
  refine (HK.out _).mono ?_
  rintro e x2 ⟨rfl, ho⟩
  have HB := hide (HB.out.more ho)
  have HO := hide (o2 HO.out ho)
  clear ho
  go_wp2_with fail
  refine (HS.out _).mono ?_
  rintro e x3 ⟨rfl, ho⟩
  have HB := hide (HB.out.more ho)
  have HO := hide (o2 HO.out ho)
  clear ho
  have c0 := HB.out.c0
  have c1 := HB.out.c1
  have c2 := HB.out.c2
  have c3 := HB.out.c3
  have c4 := HB.out.c4
  go_wp2_with fail
  refine (HE.out _).mono ?_
  rintro e x4 ⟨rfl, ho⟩
  have HB := hide (HB.out.more ho)
  have HO := hide (o2 HO.out ho)
  clear ho c0 c1 c2 c3 c4
  have c0 := HB.out.c0
  have c1 := HB.out.c1
  have c2 := HB.out.c2
  have c3 := HB.out.c3
  have c4 := HB.out.c4
  go_wp2_with fail
  refine (HAW.out _).mono ?_
  rintro e x5 ⟨rfl, ho⟩
  have HO := hide (o2 HO.out ho)
  clear ho
  go_wp2_with fail
  go_ret
  exact ⟨rfl, HO.out⟩
set_option maxRecDepth 100000 in
set_option maxHeartbeats 3200000 in
theorem there_dead (w : World) (l : List UInt8) (k : ByteArray) (h : deadK l = some k) :
    Calls Try.prog 6 #[.string (str l)] w fun e w' => e = .returned (.bool true) ∧ Only (fun _ => False) w w' := by
  have HAW := hide ret_awake
  have HF := hide ret_free
  have HD := hide (ret_dec l)
  have HK := hide (ret_key l)
  have HS := hide (ret_state l)
  have HO := hide (Only.refl (fun _ => False) w)
  obtain ⟨hok, hl, _⟩ := lay_dead h
  have HE := hide (ret_dead k)
  rw [show dOut k = l by unfold dOut; rw [hok, if_pos rfl, hl], show dErr k = 0 by unfold dErr; rw [hok]; rfl] at HE
  rw [dead_dec h, outT_none] at HD
  rw [show keyT l = some k by rw [← hl]; exact key_dead hok, outK_some] at HK
  rw [show stT l = 2 by rw [← hl]; exact st_dead hok] at HS
  obtain ⟨S, hS⟩ : ∃ S, str l = S := ⟨_, rfl⟩
  rw [hS] at HD HK HS ⊢
  rw [hS] at HE
  clear hS h hok hl
  go_enter Try.func6, Try.ntmps6
  go_wp2_with fail
  refine (HD.out _).mono ?_
  rintro e x1 ⟨rfl, ho⟩
  have HO := hide (o2 HO.out ho)
  clear ho
  have HO := hide (o2 HO.out (onlyA x1 (.cells #[.int .i64 0, .int .i64 0, .bool false, .string ⟨#[]⟩, .string ⟨#[]⟩] 23)))
  go_wp2_with fail
  refine (HK.out _).mono ?_
  rintro e x2 ⟨rfl, ho⟩
  have HO := hide (o2 HO.out ho)
  clear ho
  go_wp2_with fail
  refine (HS.out _).mono ?_
  rintro e x3 ⟨rfl, ho⟩
  have HO := hide (o2 HO.out ho)
  clear ho
  go_wp2_with fail
  refine (HE.out _).mono ?_
  rintro e x4 ⟨rfl, ho⟩
  have HO := hide (o2 HO.out ho)
  clear ho
  go_wp2_with fail
  refine (HAW.out _).mono ?_
  rintro e x5 ⟨rfl, ho⟩
  have HO := hide (o2 HO.out ho)
  clear ho
  go_wp2_with fail
  go_ret
  exact ⟨rfl, HO.out⟩
set_option maxRecDepth 100000 in
set_option maxHeartbeats 3200000 in
theorem there_none (w : World) (l : List UInt8) (h1 : decT l = none) (h2 : deadK l = none) (h3 : l ≠ []) :
    Calls Try.prog 6 #[.string (str l)] w fun e w' => e = .returned (.bool true) ∧ Only (fun _ => False) w w' := by
  have HAW := hide ret_awake
  have HF := hide ret_free
  have HD := hide (ret_dec l)
  have HK := hide (ret_key l)
  have HS := hide (ret_state l)
  have HO := hide (Only.refl (fun _ => False) w)
  rw [h1, outT_none] at HD
  rw [show keyT l = none by unfold keyT; rw [h1]; exact h2, outK_none] at HK
  rw [show stT l = 0 by unfold stT; rw [h1, h2]; simp [h3]] at HS
  obtain ⟨S, hS⟩ : ∃ S, str l = S := ⟨_, rfl⟩
  rw [hS] at HD HK HS ⊢
  clear hS h1 h2 h3
  go_enter Try.func6, Try.ntmps6
  go_wp2_with fail
  refine (HD.out _).mono ?_
  rintro e x1 ⟨rfl, ho⟩
  have HO := hide (o2 HO.out ho)
  clear ho
  have HO := hide (o2 HO.out (onlyA x1 (.cells #[.int .i64 0, .int .i64 0, .bool false, .string ⟨#[]⟩, .string ⟨#[]⟩] 23)))
  go_wp2_with fail
  refine (HK.out _).mono ?_
  rintro e x2 ⟨rfl, ho⟩
  have HO := hide (o2 HO.out ho)
  clear ho
  go_wp2_with fail
  refine (HS.out _).mono ?_
  rintro e x3 ⟨rfl, ho⟩
  have HO := hide (o2 HO.out ho)
  clear ho
  go_wp2_with fail
  refine (HAW.out _).mono ?_
  rintro e x4 ⟨rfl, ho⟩
  have HO := hide (o2 HO.out ho)
  clear ho
  go_wp2_with fail
  go_ret
  exact ⟨rfl, HO.out⟩
set_option maxRecDepth 100000 in
set_option maxHeartbeats 3200000 in
theorem there_free (w : World) (l : List UInt8) (h : l = []) :
    Calls Try.prog 6 #[.string (str l)] w fun e w' => e = .returned (.bool true) ∧ Only (fun _ => False) w w' := by
  have HAW := hide ret_awake
  have HF := hide ret_free
  have HD := hide (ret_dec l)
  have HK := hide (ret_key l)
  have HS := hide (ret_state l)
  have HO := hide (Only.refl (fun _ => False) w)
  subst h
  rw [show decT [] = none from rfl, outT_none] at HD
  rw [show keyT [] = none from rfl, outK_none] at HK
  rw [show stT [] = 1 from rfl] at HS
  rw [show str [] = ⟨#[]⟩ from rfl] at HD HK HS ⊢
  go_enter Try.func6, Try.ntmps6
  go_wp2_with fail
  refine (HD.out _).mono ?_
  rintro e x1 ⟨rfl, ho⟩
  have HO := hide (o2 HO.out ho)
  clear ho
  have HO := hide (o2 HO.out (onlyA x1 (.cells #[.int .i64 0, .int .i64 0, .bool false, .string ⟨#[]⟩, .string ⟨#[]⟩] 23)))
  go_wp2_with fail
  refine (HK.out _).mono ?_
  rintro e x2 ⟨rfl, ho⟩
  have HO := hide (o2 HO.out ho)
  clear ho
  go_wp2_with fail
  refine (HS.out _).mono ?_
  rintro e x3 ⟨rfl, ho⟩
  have HO := hide (o2 HO.out ho)
  clear ho
  go_wp2_with fail
  refine (HF.out _).mono ?_
  rintro e x4 ⟨rfl, ho⟩
  have HO := hide (o2 HO.out ho)
  clear ho
  go_wp2_with fail
  refine (HAW.out _).mono ?_
  rintro e x5 ⟨rfl, ho⟩
  have HO := hide (o2 HO.out ho)
  clear ho
  go_wp2_with fail
  go_ret
  exact ⟨rfl, HO.out⟩
theorem there_law (w : World) (s : ByteArray) :
    Calls Try.prog 6 #[.string s] w fun e w' => e = .returned (.bool true) ∧ Only (fun _ => False) w w' := by
  rw [← str_bl s]
  by_cases h3 : bl s = []
  · exact there_free w _ h3
  cases h1 : decT (bl s) with
  | some t => exact there_live w _ t h1
  | none =>
    cases h2 : deadK (bl s) with
    | some k => exact there_dead w _ k h2
    | none => exact there_none w _ h1 h2 h3
set_option maxRecDepth 100000 in
set_option maxHeartbeats 3200000 in
theorem alike_a (w : World) (a b : Tu) (ha0 : -9223372036854775808 ≤ a.xmin ∧ a.xmin < 9223372036854775808) (ha1 : -9223372036854775808 ≤ a.xmax ∧ a.xmax < 9223372036854775808) (hb0 : -9223372036854775808 ≤ b.xmin ∧ b.xmin < 9223372036854775808) (hb1 : -9223372036854775808 ≤ b.xmax ∧ b.xmax < 9223372036854775808) (aok : a.ok = false) :
    Calls Try.prog 7 #[.agg #[.int .i64 a.xmin, .int .i64 a.xmax, .bool a.frozen, .string a.key, .string a.value], .agg #[.int .i64 b.xmin, .int .i64 b.xmax, .bool b.frozen, .string b.key, .string b.value]] w fun e w' => e = .returned (.bool true) ∧ Only (fun _ => False) w w' := by
  have HAW := hide ret_awake
  have HE := hide (ret_enc a ha0 ha1)
  have HF := hide (ret_enc b hb0 hb1)
  have HA := hide ((Tb.new w a).more (onlyA _ (.cells #[.int .i64 b.xmin, .int .i64 b.xmax, .bool b.frozen, .string b.key, .string b.value] 23)))
  have HB := hide (Tb.new (w.alloc (.cells #[.int .i64 a.xmin, .int .i64 a.xmax, .bool a.frozen, .string a.key, .string a.value] 23)) b)
  have HO := hide (o2 (onlyA w (.cells #[.int .i64 a.xmin, .int .i64 a.xmax, .bool a.frozen, .string a.key, .string a.value] 23)) (onlyA _ (.cells #[.int .i64 b.xmin, .int .i64 b.xmax, .bool b.frozen, .string b.key, .string b.value] 23)))
  rw [World.size_alloc] at HB
  rw [show a.err = 110 by unfold Tu.err; rw [aok]; rfl] at HE
  clear aok
  clear ha0 ha1 hb0 hb1
  go_enter Try.func7, Try.ntmps7
  go_wp2_with fail
  refine (HE.out _).mono ?_
  rintro e x1 ⟨rfl, ho⟩
  have HA := hide (HA.out.more ho)
  have HB := hide (HB.out.more ho)
  have HO := hide (o2 HO.out ho)
  clear ho
  have a0 := HA.out.c0
  have a1 := HA.out.c1
  have a2 := HA.out.c2
  have a3 := HA.out.c3
  have a4 := HA.out.c4
  have b0 := HB.out.c0
  have b1 := HB.out.c1
  have b2 := HB.out.c2
  have b3 := HB.out.c3
  have b4 := HB.out.c4
  have g0 := HB.out.f0
  have g1 := HB.out.f1
  have g2 := HB.out.f2
  have g3 := HB.out.f3
  have g4 := HB.out.f4
  go_wp2_with fail
  refine (HF.out _).mono ?_
  rintro e x2 ⟨rfl, ho⟩
  have HA := hide (HA.out.more ho)
  have HB := hide (HB.out.more ho)
  have HO := hide (o2 HO.out ho)
  clear ho a0 a1 a2 a3 a4 b0 b1 b2 b3 b4 g0 g1 g2 g3 g4
  have a0 := HA.out.c0
  have a1 := HA.out.c1
  have a2 := HA.out.c2
  have a3 := HA.out.c3
  have a4 := HA.out.c4
  have b0 := HB.out.c0
  have b1 := HB.out.c1
  have b2 := HB.out.c2
  have b3 := HB.out.c3
  have b4 := HB.out.c4
  have g0 := HB.out.f0
  have g1 := HB.out.f1
  have g2 := HB.out.f2
  have g3 := HB.out.f3
  have g4 := HB.out.f4
  go_wp2_with fail
  refine (HAW.out _).mono ?_
  rintro e x3 ⟨rfl, ho⟩
  have HO := hide (o2 HO.out ho)
  clear ho
  go_wp2_with fail
  go_ret
  exact ⟨rfl, HO.out⟩
set_option maxRecDepth 100000 in
set_option maxHeartbeats 3200000 in
theorem alike_b (w : World) (a b : Tu) (ha0 : -9223372036854775808 ≤ a.xmin ∧ a.xmin < 9223372036854775808) (ha1 : -9223372036854775808 ≤ a.xmax ∧ a.xmax < 9223372036854775808) (hb0 : -9223372036854775808 ≤ b.xmin ∧ b.xmin < 9223372036854775808) (hb1 : -9223372036854775808 ≤ b.xmax ∧ b.xmax < 9223372036854775808) (aok : a.ok = true) (bok : b.ok = false) :
    Calls Try.prog 7 #[.agg #[.int .i64 a.xmin, .int .i64 a.xmax, .bool a.frozen, .string a.key, .string a.value], .agg #[.int .i64 b.xmin, .int .i64 b.xmax, .bool b.frozen, .string b.key, .string b.value]] w fun e w' => e = .returned (.bool true) ∧ Only (fun _ => False) w w' := by
  have HAW := hide ret_awake
  have HE := hide (ret_enc a ha0 ha1)
  have HF := hide (ret_enc b hb0 hb1)
  have HA := hide ((Tb.new w a).more (onlyA _ (.cells #[.int .i64 b.xmin, .int .i64 b.xmax, .bool b.frozen, .string b.key, .string b.value] 23)))
  have HB := hide (Tb.new (w.alloc (.cells #[.int .i64 a.xmin, .int .i64 a.xmax, .bool a.frozen, .string a.key, .string a.value] 23)) b)
  have HO := hide (o2 (onlyA w (.cells #[.int .i64 a.xmin, .int .i64 a.xmax, .bool a.frozen, .string a.key, .string a.value] 23)) (onlyA _ (.cells #[.int .i64 b.xmin, .int .i64 b.xmax, .bool b.frozen, .string b.key, .string b.value] 23)))
  rw [World.size_alloc] at HB
  rw [show a.err = 0 by unfold Tu.err; rw [aok]; rfl] at HE
  rw [show b.err = 110 by unfold Tu.err; rw [bok]; rfl] at HF
  clear aok bok
  clear ha0 ha1 hb0 hb1
  go_enter Try.func7, Try.ntmps7
  go_wp2_with fail
  refine (HE.out _).mono ?_
  rintro e x1 ⟨rfl, ho⟩
  have HA := hide (HA.out.more ho)
  have HB := hide (HB.out.more ho)
  have HO := hide (o2 HO.out ho)
  clear ho
  have a0 := HA.out.c0
  have a1 := HA.out.c1
  have a2 := HA.out.c2
  have a3 := HA.out.c3
  have a4 := HA.out.c4
  have b0 := HB.out.c0
  have b1 := HB.out.c1
  have b2 := HB.out.c2
  have b3 := HB.out.c3
  have b4 := HB.out.c4
  have g0 := HB.out.f0
  have g1 := HB.out.f1
  have g2 := HB.out.f2
  have g3 := HB.out.f3
  have g4 := HB.out.f4
  go_wp2_with fail
  refine (HF.out _).mono ?_
  rintro e x2 ⟨rfl, ho⟩
  have HA := hide (HA.out.more ho)
  have HB := hide (HB.out.more ho)
  have HO := hide (o2 HO.out ho)
  clear ho a0 a1 a2 a3 a4 b0 b1 b2 b3 b4 g0 g1 g2 g3 g4
  have a0 := HA.out.c0
  have a1 := HA.out.c1
  have a2 := HA.out.c2
  have a3 := HA.out.c3
  have a4 := HA.out.c4
  have b0 := HB.out.c0
  have b1 := HB.out.c1
  have b2 := HB.out.c2
  have b3 := HB.out.c3
  have b4 := HB.out.c4
  have g0 := HB.out.f0
  have g1 := HB.out.f1
  have g2 := HB.out.f2
  have g3 := HB.out.f3
  have g4 := HB.out.f4
  go_wp2_with fail
  refine (HAW.out _).mono ?_
  rintro e x3 ⟨rfl, ho⟩
  have HO := hide (o2 HO.out ho)
  clear ho
  go_wp2_with fail
  go_ret
  exact ⟨rfl, HO.out⟩
set_option maxRecDepth 100000 in
set_option maxHeartbeats 3200000 in
theorem alike_ne (w : World) (a b : Tu) (ha0 : -9223372036854775808 ≤ a.xmin ∧ a.xmin < 9223372036854775808) (ha1 : -9223372036854775808 ≤ a.xmax ∧ a.xmax < 9223372036854775808) (hb0 : -9223372036854775808 ≤ b.xmin ∧ b.xmin < 9223372036854775808) (hb1 : -9223372036854775808 ≤ b.xmax ∧ b.xmax < 9223372036854775808) (aok : a.ok = true) (bok : b.ok = true) (hab : ¬ a = b) :
    Calls Try.prog 7 #[.agg #[.int .i64 a.xmin, .int .i64 a.xmax, .bool a.frozen, .string a.key, .string a.value], .agg #[.int .i64 b.xmin, .int .i64 b.xmax, .bool b.frozen, .string b.key, .string b.value]] w fun e w' => e = .returned (.bool true) ∧ Only (fun _ => False) w w' := by
  have HAW := hide ret_awake
  have HE := hide (ret_enc a ha0 ha1)
  have HF := hide (ret_enc b hb0 hb1)
  have HA := hide ((Tb.new w a).more (onlyA _ (.cells #[.int .i64 b.xmin, .int .i64 b.xmax, .bool b.frozen, .string b.key, .string b.value] 23)))
  have HB := hide (Tb.new (w.alloc (.cells #[.int .i64 a.xmin, .int .i64 a.xmax, .bool a.frozen, .string a.key, .string a.value] 23)) b)
  have HO := hide (o2 (onlyA w (.cells #[.int .i64 a.xmin, .int .i64 a.xmax, .bool a.frozen, .string a.key, .string a.value] 23)) (onlyA _ (.cells #[.int .i64 b.xmin, .int .i64 b.xmax, .bool b.frozen, .string b.key, .string b.value] 23)))
  rw [World.size_alloc] at HB
  rw [show a.err = 0 by unfold Tu.err; rw [aok]; rfl] at HE
  rw [show b.err = 0 by unfold Tu.err; rw [bok]; rfl] at HF
  rw [show a.out = a.enc by unfold Tu.out; rw [aok]; rfl] at HE
  rw [show b.out = b.enc by unfold Tu.out; rw [bok]; rfl] at HF
  have hoa := Tu.ok_iff.1 aok
  have hob := Tu.ok_iff.1 bok
  obtain ⟨c, hc⟩ : ∃ c : Tu, (⟨b.xmin, b.xmax, b.frozen, a.key, a.value⟩ : Tu) = c := ⟨_, rfl⟩
  have cok : c.ok = true := by rw [← hc, Tu.ok_iff]; simp only; omega
  have HG := hide (ret_enc c (by rw [← hc]; exact hb0) (by rw [← hc]; exact hb1))
  rw [show c.out = c.enc by unfold Tu.out; rw [cok]; rfl, show c.err = 0 by unfold Tu.err; rw [cok]; rfl] at HG
  have hcl : c.enc.length = a.enc.length := by rw [enc_lenT cok, enc_lenT aok, ← hc]
  obtain ⟨Ea, hEa⟩ : ∃ x, str a.enc = x := ⟨_, rfl⟩
  obtain ⟨Ec, hEc⟩ : ∃ x, str c.enc = x := ⟨_, rfl⟩
  have hsz : (Ec.size : Int) = (Ea.size : Int) := by rw [← hEa, ← hEc, str_size, str_size, hcl]
  rw [hEc] at HG
  rw [← hc] at HG
  obtain ⟨Eb, hEb⟩ : ∃ x, str b.enc = x := ⟨_, rfl⟩
  have hne : (Ea.toList == Eb.toList) = false := ba_neU (fun e => hab (enc_injT aok bok (by rw [← hEa, ← hEb] at e; exact (bl_str _).symm.trans ((congrArg bl e).trans (bl_str _)))))
  rw [hEa] at HE
  rw [hEb] at HF
  clear hEa hEb hEc hc cok hcl hoa hob aok bok
  clear ha0 ha1 hb0 hb1
  go_enter Try.func7, Try.ntmps7
  go_wp2_with fail
  refine (HE.out _).mono ?_
  rintro e x1 ⟨rfl, ho⟩
  have HA := hide (HA.out.more ho)
  have HB := hide (HB.out.more ho)
  have HO := hide (o2 HO.out ho)
  clear ho
  have a0 := HA.out.c0
  have a1 := HA.out.c1
  have a2 := HA.out.c2
  have a3 := HA.out.c3
  have a4 := HA.out.c4
  have b0 := HB.out.c0
  have b1 := HB.out.c1
  have b2 := HB.out.c2
  have b3 := HB.out.c3
  have b4 := HB.out.c4
  have g0 := HB.out.f0
  have g1 := HB.out.f1
  have g2 := HB.out.f2
  have g3 := HB.out.f3
  have g4 := HB.out.f4
  go_wp2_with fail
  refine (HF.out _).mono ?_
  rintro e x2 ⟨rfl, ho⟩
  have HA := hide (HA.out.more ho)
  have HB := hide (HB.out.more ho)
  have HO := hide (o2 HO.out ho)
  clear ho a0 a1 a2 a3 a4 b0 b1 b2 b3 b4 g0 g1 g2 g3 g4
  have a0 := HA.out.c0
  have a1 := HA.out.c1
  have a2 := HA.out.c2
  have a3 := HA.out.c3
  have a4 := HA.out.c4
  have b0 := HB.out.c0
  have b1 := HB.out.c1
  have b2 := HB.out.c2
  have b3 := HB.out.c3
  have b4 := HB.out.c4
  have g0 := HB.out.f0
  have g1 := HB.out.f1
  have g2 := HB.out.f2
  have g3 := HB.out.f3
  have g4 := HB.out.f4
  have HO3 : Hid (Only (fun _ => False) w ((x2.setCell ⟨w.heap.size + 1, 3, none⟩ (.string a.key)).setCell ⟨w.heap.size + 1, 4, none⟩ (.string a.value))) := (HO.out.trans (Only.setCell (S := fun k => k = w.heap.size + 1) x2 ⟨w.heap.size + 1, 3, none⟩ (.string a.key) rfl) (fun i hi e => by omega)).trans (Only.setCell (S := fun k => k = w.heap.size + 1) _ ⟨w.heap.size + 1, 4, none⟩ (.string a.value) rfl) (fun i hi e => by omega)
  go_wp2_with fail
  all_goals first
    | (exfalso; exact hab (Tu.extL (by assumption) (by assumption) (by assumption) (by assumption) (by assumption)))
    | skip
  all_goals
    refine (HG.out _).mono ?_
    rintro e x3 ⟨rfl, ho⟩
    have HO := hide (o2 HO3.out ho)
    clear ho
    go_wp2_with fail
    refine (HAW.out _).mono ?_
    rintro e x4 ⟨rfl, ho⟩
    have HO := hide (o2 HO.out ho)
    clear ho
    go_wp2_with fail
    go_ret
    exact ⟨rfl, HO.out⟩
set_option maxRecDepth 100000 in
set_option maxHeartbeats 3200000 in
theorem alike_eq (w : World) (a b : Tu) (ha0 : -9223372036854775808 ≤ a.xmin ∧ a.xmin < 9223372036854775808) (ha1 : -9223372036854775808 ≤ a.xmax ∧ a.xmax < 9223372036854775808) (hb0 : -9223372036854775808 ≤ b.xmin ∧ b.xmin < 9223372036854775808) (hb1 : -9223372036854775808 ≤ b.xmax ∧ b.xmax < 9223372036854775808) (aok : a.ok = true) (bok : b.ok = true) (hab : a = b) :
    Calls Try.prog 7 #[.agg #[.int .i64 a.xmin, .int .i64 a.xmax, .bool a.frozen, .string a.key, .string a.value], .agg #[.int .i64 b.xmin, .int .i64 b.xmax, .bool b.frozen, .string b.key, .string b.value]] w fun e w' => e = .returned (.bool true) ∧ Only (fun _ => False) w w' := by
  have HAW := hide ret_awake
  have HE := hide (ret_enc a ha0 ha1)
  have HF := hide (ret_enc b hb0 hb1)
  have HA := hide ((Tb.new w a).more (onlyA _ (.cells #[.int .i64 b.xmin, .int .i64 b.xmax, .bool b.frozen, .string b.key, .string b.value] 23)))
  have HB := hide (Tb.new (w.alloc (.cells #[.int .i64 a.xmin, .int .i64 a.xmax, .bool a.frozen, .string a.key, .string a.value] 23)) b)
  have HO := hide (o2 (onlyA w (.cells #[.int .i64 a.xmin, .int .i64 a.xmax, .bool a.frozen, .string a.key, .string a.value] 23)) (onlyA _ (.cells #[.int .i64 b.xmin, .int .i64 b.xmax, .bool b.frozen, .string b.key, .string b.value] 23)))
  rw [World.size_alloc] at HB
  rw [show a.err = 0 by unfold Tu.err; rw [aok]; rfl] at HE
  rw [show b.err = 0 by unfold Tu.err; rw [bok]; rfl] at HF
  rw [show a.out = a.enc by unfold Tu.out; rw [aok]; rfl] at HE
  rw [show b.out = b.enc by unfold Tu.out; rw [bok]; rfl] at HF
  have hoa := Tu.ok_iff.1 aok
  have hob := Tu.ok_iff.1 bok
  obtain ⟨c, hc⟩ : ∃ c : Tu, (⟨b.xmin, b.xmax, b.frozen, a.key, a.value⟩ : Tu) = c := ⟨_, rfl⟩
  have cok : c.ok = true := by rw [← hc, Tu.ok_iff]; simp only; omega
  have HG := hide (ret_enc c (by rw [← hc]; exact hb0) (by rw [← hc]; exact hb1))
  rw [show c.out = c.enc by unfold Tu.out; rw [cok]; rfl, show c.err = 0 by unfold Tu.err; rw [cok]; rfl] at HG
  have hcl : c.enc.length = a.enc.length := by rw [enc_lenT cok, enc_lenT aok, ← hc]
  obtain ⟨Ea, hEa⟩ : ∃ x, str a.enc = x := ⟨_, rfl⟩
  obtain ⟨Ec, hEc⟩ : ∃ x, str c.enc = x := ⟨_, rfl⟩
  have hsz : (Ec.size : Int) = (Ea.size : Int) := by rw [← hEa, ← hEc, str_size, str_size, hcl]
  rw [hEc] at HG
  rw [← hc] at HG
  rw [hEa] at HE
  rw [← hab, hEa] at HF
  clear hEa hEc hc cok hcl hoa hob aok bok
  clear ha0 ha1 hb0 hb1
  subst hab
  go_enter Try.func7, Try.ntmps7
  go_wp2_with fail
  refine (HE.out _).mono ?_
  rintro e x1 ⟨rfl, ho⟩
  have HA := hide (HA.out.more ho)
  have HB := hide (HB.out.more ho)
  have HO := hide (o2 HO.out ho)
  clear ho
  have a0 := HA.out.c0
  have a1 := HA.out.c1
  have a2 := HA.out.c2
  have a3 := HA.out.c3
  have a4 := HA.out.c4
  have b0 := HB.out.c0
  have b1 := HB.out.c1
  have b2 := HB.out.c2
  have b3 := HB.out.c3
  have b4 := HB.out.c4
  have g0 := HB.out.f0
  have g1 := HB.out.f1
  have g2 := HB.out.f2
  have g3 := HB.out.f3
  have g4 := HB.out.f4
  go_wp2_with fail
  refine (HF.out _).mono ?_
  rintro e x2 ⟨rfl, ho⟩
  have HA := hide (HA.out.more ho)
  have HB := hide (HB.out.more ho)
  have HO := hide (o2 HO.out ho)
  clear ho a0 a1 a2 a3 a4 b0 b1 b2 b3 b4 g0 g1 g2 g3 g4
  have a0 := HA.out.c0
  have a1 := HA.out.c1
  have a2 := HA.out.c2
  have a3 := HA.out.c3
  have a4 := HA.out.c4
  have b0 := HB.out.c0
  have b1 := HB.out.c1
  have b2 := HB.out.c2
  have b3 := HB.out.c3
  have b4 := HB.out.c4
  have g0 := HB.out.f0
  have g1 := HB.out.f1
  have g2 := HB.out.f2
  have g3 := HB.out.f3
  have g4 := HB.out.f4
  have HO3 : Hid (Only (fun _ => False) w ((x2.setCell ⟨w.heap.size + 1, 3, none⟩ (.string a.key)).setCell ⟨w.heap.size + 1, 4, none⟩ (.string a.value))) := (HO.out.trans (Only.setCell (S := fun k => k = w.heap.size + 1) x2 ⟨w.heap.size + 1, 3, none⟩ (.string a.key) rfl) (fun i hi e => by omega)).trans (Only.setCell (S := fun k => k = w.heap.size + 1) _ ⟨w.heap.size + 1, 4, none⟩ (.string a.value) rfl) (fun i hi e => by omega)
  go_wp2_with fail
  refine (HG.out _).mono ?_
  rintro e x3 ⟨rfl, ho⟩
  have HO := hide (o2 HO3.out ho)
  clear ho
  go_wp2_with fail
  refine (HAW.out _).mono ?_
  rintro e x4 ⟨rfl, ho⟩
  have HO := hide (o2 HO.out ho)
  clear ho
  go_wp2_with fail
  go_ret
  exact ⟨rfl, HO.out⟩
theorem alike_law (w : World) (a b : Tu) (ha0 : -9223372036854775808 ≤ a.xmin ∧ a.xmin < 9223372036854775808) (ha1 : -9223372036854775808 ≤ a.xmax ∧ a.xmax < 9223372036854775808) (hb0 : -9223372036854775808 ≤ b.xmin ∧ b.xmin < 9223372036854775808) (hb1 : -9223372036854775808 ≤ b.xmax ∧ b.xmax < 9223372036854775808) :
    Calls Try.prog 7 #[.agg #[.int .i64 a.xmin, .int .i64 a.xmax, .bool a.frozen, .string a.key, .string a.value], .agg #[.int .i64 b.xmin, .int .i64 b.xmax, .bool b.frozen, .string b.key, .string b.value]] w fun e w' => e = .returned (.bool true) ∧ Only (fun _ => False) w w' := by
  cases aok : a.ok
  · exact alike_a w a b ha0 ha1 hb0 hb1 aok
  · cases bok : b.ok
    · exact alike_b w a b ha0 ha1 hb0 hb1 aok bok
    · by_cases hab : a = b
      · exact alike_eq w a b ha0 ha1 hb0 hb1 aok bok hab
      · exact alike_ne w a b ha0 ha1 hb0 hb1 aok bok hab
end Go.Proofs.Ythcpmcpgbipgoaa
