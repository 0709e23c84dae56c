import PyProof.Rows.All
import Wide.All
import OpenK.AllK
import Wide.FinOn
import HandS.ForMost
import HandS.IsInst
import PySem.Challenge.RW_treemove_k01_told_order
set_option Elab.async false
set_option linter.all false
set_option maxRecDepth 100000
namespace Tm
open PySem PySem.Spec PyProof.Rows L2
def topS (i : Nat) : Stmt := PySem.Challenge.pw_treemove_k01_told_order.main.body.getD i (.Pass ⟨0, 0, 0, 0⟩)
abbrev s_ahead : Stmt := topS 1
theorem sc_ahead : FnScope ["one", "other"] ["one", "other"] (defScope s_ahead) := ⟨rfl, rfl, rfl, by decide +kernel, rfl, by decide +kernel, by decide +kernel⟩
abbrev s_law_cell_at : Stmt := topS 3
theorem sc_law_cell_at : FnScope ["_law_script", "_law_k"] ["_law_script", "_law_k"] (defScope s_law_cell_at) := ⟨rfl, rfl, rfl, by decide +kernel, rfl, by decide +kernel, by decide +kernel⟩
abbrev s_law_second : Stmt := topS 4
theorem sc_law_second : FnScope ["_law_first", "_law_least", "_law_cell"] ["_law_first", "_law_least", "_law_cell"] (defScope s_law_second) := ⟨rfl, rfl, rfl, by decide +kernel, rfl, by decide +kernel, by decide +kernel⟩
abbrev s_law : Stmt := topS 5
theorem sc_law : FnScope ["_law_script", "_law_time", "_law_hand", "_law_under", "_law_one", "_law_two", "_law_due", "_law_turned", "_law_found"] ["_law_script"] (defScope s_law) := ⟨rfl, rfl, rfl, by decide +kernel, rfl, by decide +kernel, by decide +kernel⟩
/-- what the top leaves -/
structure Tx (K : PySem.W.Frag) (mg : Str → Option Value) where
  a_ahead : Addr
  d_ahead : FuncData
  F_ahead : Fun K "ahead" "ahead" s_ahead a_ahead d_ahead
  b_ahead : Binds K d_ahead ["one", "other"] []
  g_ahead : mg "ahead" = some (.ref a_ahead)
  a_law_cell_at : Addr
  d_law_cell_at : FuncData
  F_law_cell_at : Fun K "_law_cell_at" "_law_cell_at" s_law_cell_at a_law_cell_at d_law_cell_at
  b_law_cell_at : Binds K d_law_cell_at ["_law_script", "_law_k"] []
  g_law_cell_at : mg "_law_cell_at" = some (.ref a_law_cell_at)
  a_law_second : Addr
  d_law_second : FuncData
  F_law_second : Fun K "_law_second" "_law_second" s_law_second a_law_second d_law_second
  b_law_second : Binds K d_law_second ["_law_first", "_law_least", "_law_cell"] []
  g_law_second : mg "_law_second" = some (.ref a_law_second)
  a_law : Addr
  d_law : FuncData
  F_law : Fun K "law" "law" s_law a_law d_law
  b_law : Binds K d_law ["_law_script"] []
  g_law : mg "law" = some (.ref a_law)
  m_bool : mg "bool" = none
  m_isinstance : mg "isinstance" = none
  m_len : mg "len" = none
/-! ### short readings -/
theorem isi {K : PySem.W.Frag} {H : Hp} {x : V} {t n : String} {b : Bool} {Q : VK} (ty : TyX K H x (.type t)) (e : kitB t n = some b) (q : Q (.bl b) H) : rIsi K [x, .ty n] H Q := ⟨x, .ty n, .type t, .type n, b, rfl, .ty n, ty, kit_ty e, q⟩
theorem kbb : kitB "bool" "bool" = some true := by decide +kernel
theorem kbi : kitB "bool" "int" = some true := by decide +kernel
theorem kii : kitB "int" "int" = some true := by decide +kernel
theorem kib : kitB "int" "bool" = some false := by decide +kernel
theorem kll : kitB "list" "list" = some true := by decide +kernel
theorem ktt : kitB "tuple" "tuple" = some true := by decide +kernel
theorem kdd : kitB "dict" "dict" = some true := by decide +kernel
theorem kss : kitB "str" "str" = some true := by decide +kernel
theorem same_upd {H : Hp} {p : Addr} {o : HO} (h : H p = none) : Same H (upd H p o) := fun b x e => by
  rw [upd_ne (ne_of_none e h)]
  exact e
theorem same_seqT {K : PySem.W.Frag} {H H' : Hp} {a : Addr} {xs : List V} (e : Same H H') (h : SqT K H a xs) : SqT K H' a xs := by
  rcases h with (h | ⟨o, h⟩) | h
  · exact .inl (.inl (e _ _ h))
  · exact .inl (.inr ⟨o, e _ _ h⟩)
  · exact .inr h
theorem p60 : (10 : Int) ^ (Int.toNat 60) = 1000000000000000000000000000000000000000000000000000000000000 := by decide +kernel
local macro_rules | `(tactic| walk_at "cond") => `(tactic| first
  | decide
  | omega
  | (dsimp only; first | decide | omega)
  | exact ⟨by decide, by decide, by decide⟩
  | exact ⟨by first | decide | omega, by first | decide | omega⟩
  | exact .inr ⟨by first | decide | omega, by first | decide | omega⟩
  | exact .inl ⟨by first | decide | omega, by first | decide | omega⟩)
local macro_rules | `(tactic| walk_at "rd1") => `(tactic| first
  | refine ⟨_, rfl, ?_⟩
  | refine ⟨_, _, rfl, rfl, ?_⟩
  | refine ⟨rfl, ?_⟩
  | refine ⟨(by walk_at "cond" : (_ : Prop)), ?_⟩
  | refine ⟨_, _, _, rfl, by assumption, by decide, ?_⟩
  | refine ⟨_, _, _, _, _, rfl, .ty _, .base (.int _), kit_ty kii, ?_⟩
  | refine ⟨_, _, _, _, _, rfl, .ty _, .base (.int _), kit_ty kib, ?_⟩
  | refine ⟨_, _, _, _, _, rfl, .ty _, .base (.bl _), kit_ty kbb, ?_⟩
  | refine ⟨_, _, _, _, _, rfl, .ty _, .base (.bl _), kit_ty kbi, ?_⟩
  | refine ⟨_, _, _, _, _, rfl, .ty _, .base (.str _), kit_ty kss, ?_⟩
  | refine ⟨_, _, _, _, _, rfl, .ty _, .base (.lst (by assumption)), kit_ty kll, ?_⟩
  | refine ⟨_, _, _, _, _, rfl, .ty _, .base (.tup (by assumption)), kit_ty ktt, ?_⟩
  | refine ⟨_, _, _, _, _, rfl, .ty _, .base (.dK (by assumption)), kit_ty kdd, ?_⟩
  | refine ⟨_, _, _, _, rfl, rfl, by assumption, by first | exact atI_nat (j := 0) rfl | exact atI_nat (j := 1) rfl | exact atI_nat (j := 2) rfl | exact atI_nat (j := 3) rfl, ?_⟩)
local macro_rules | `(tactic| walk_at "rd") => `(tactic| repeat (walk_at "rd1"))

section
variable {P : Program} {w : World} {K : PySem.W.Frag} {mg : Str → Option Value} {base : Heap}
/-! ### _law_cell_at -/
def cellOf (ns : List Int) (k : Nat) : Int := ns.getD k 0
def sp_law_cell_at (K : PySem.W.Frag) : Sp := fun vs H Q _ => ∃ (a : Addr) (ns : List Int) (k : Int), vs = [.ref a, .int k] ∧ SqL K H a (ns.map V.int) ∧ 0 ≤ k ∧ Q (.int (cellOf ns k.toNat)) H
theorem ok_law_cell_at (T : Tx K mg) : FnOk P w K mg base CX0 1 T.a_law_cell_at T.d_law_cell_at ["_law_script", "_law_k"] (sp_law_cell_at K) := by
  refine T.F_law_cell_at.ok sc_law_cell_at (fun vs H Q E h => ?_) (fun cdv A outer s H vs Q E hr h => ?_)
  · obtain ⟨a, ns, k, rfl, _⟩ := h
    rfl
  · obtain ⟨a, ns, k, rfl, hS, hk, q⟩ := h
    obtain ⟨k, rfl⟩ := Int.eq_ofNat_of_zero_le hk
    refine ⟨_, pss_cons (ps_if (pt_cmpR op_lt (pv 1) (pe_callB call_len_seq (by rfl) T.m_len PySem.boot_len (pa_cons (pv 0) pa_nil)) (nomark _)) (pss_one (ps_ret (pe_ix ix_list (pv 0) (pv 1) (fun _ _ => rfl)))) pss_nil)
      (pss_one (ps_ret pe_int)), ?_⟩
    refine ⟨_, rfl, .ref a, rfl, a, _, rfl, .inl hS, _, _, rfl, rfl, _, rfl, ite2 (fun e => ?_) (fun e => ?_)⟩
    · have e1 := of_decide_eq_true e
      rw [List.length_map] at e1
      have h1 : k < ns.length := by omega
      refine ⟨_, rfl, _, rfl, a, _, _, _, rfl, rfl, hS, atI_nat (j := k) (v := .int ns[k]) (by rw [List.getElem?_map, List.getElem?_eq_getElem h1]; rfl), ?_⟩
      have e2 : cellOf ns k = ns[k] := by
        unfold cellOf
        rw [List.getD_eq_getElem?_getD, List.getElem?_eq_getElem h1]
        rfl
      have q' : Q (.int (cellOf ns k)) H := q
      rw [e2] at q'
      exact q'
    · have e1 : ¬ ((k : Int) < ((ns.map V.int).length : Nat)) := fun z => e (decide_eq_true z)
      rw [List.length_map] at e1
      have h1 : ns.length ≤ k := by omega
      have e2 : cellOf ns k = 0 := by
        unfold cellOf
        rw [List.getD_eq_getElem?_getD, List.getElem?_eq_none h1]
        rfl
      have q' : Q (.int (cellOf ns k)) H := q
      rw [e2] at q'
      exact q'

theorem get_bl {bs : List Bool} {i : Nat} {x : V} (h : (bs.map V.bl)[i]? = some x) : ∃ b, x = .bl b := by
  rw [List.getElem?_map] at h
  cases e : bs[i]? with
  | none =>
    rw [e] at h
    cases h
  | some z =>
    rw [e] at h
    exact ⟨z, (Option.some.inj h).symm⟩
/-! ### ahead -/
def aheadB (t1 h1 t2 h2 : Int) : Bool := HT.lexLt [t1, h1] [t2, h2]
theorem aheadB_eq (t1 h1 t2 h2 : Int) : aheadB t1 h1 t2 h2 = if t1 = t2 then decide (h1 < h2) else decide (t1 < t2) := by
  show (if t1 = t2 then (if h1 = h2 then false else decide (h1 < h2)) else decide (t1 < t2)) = _
  by_cases e : t1 = t2
  · rw [if_pos e, if_pos e]
    by_cases e2 : h1 = h2
    · rw [if_pos e2, e2]
      exact (decide_eq_false (Int.lt_irrefl h2)).symm
    · rw [if_neg e2]
  · rw [if_neg e, if_neg e]
theorem leaf1 {t1 h1 t2 h2 : Int} (h : t1 < t2) : aheadB t1 h1 t2 h2 = true := by
  rw [aheadB_eq, if_neg (by omega)]
  exact decide_eq_true h
theorem leaf2 {t1 h1 t2 h2 : Int} (h : t1 = t2) : aheadB t1 h1 t2 h2 = decide (h1 < h2) := by
  rw [aheadB_eq, if_pos h]
theorem leaf3 {t1 h1 t2 h2 : Int} (h : ¬ t1 < t2) (h' : ¬ t1 = t2) : aheadB t1 h1 t2 h2 = false := by
  rw [aheadB_eq, if_neg h']
  exact decide_eq_false h
theorem aheadB_self {t h : Int} : aheadB t h t h = false := by
  rw [leaf2 rfl]
  exact decide_eq_false (Int.lt_irrefl h)
def sp_ahead (K : PySem.W.Frag) : Sp := fun vs H Q _ => ∃ (p q : Addr) (t1 h1 f1 u1 t2 h2 f2 u2 : Int), vs = [.ref p, .ref q] ∧ SqT K H p [.int t1, .int h1, .int f1, .int u1] ∧ SqT K H q [.int t2, .int h2, .int f2, .int u2] ∧ ∀ H', Same H H' → Q (.bl (aheadB t1 h1 t2 h2)) H'
theorem ok_ahead (T : Tx K mg) : FnOk P w K mg base CX0 1 T.a_ahead T.d_ahead ["one", "other"] (sp_ahead K) := by
  refine T.F_ahead.ok sc_ahead (fun vs H Q E h => ?_) (fun cdv A outer s H vs Q E hr h => ?_)
  · obtain ⟨p, q, t1, h1, f1, u1, t2, h2, f2, u2, rfl, _⟩ := h
    rfl
  · obtain ⟨p, q, t1, h1, f1, u1, t2, h2, f2, u2, rfl, S1, S2, k⟩ := h
    refine ⟨_, pss_one (ps_ret (pe_cmpR (op_ltT hr.units0) (pe_tup (pa_cons (pe_ix ix_tup (pv 0) pe_int (fun _ _ => rfl)) (pa_cons (pe_ix ix_tup (pv 0) pe_int (fun _ _ => rfl)) pa_nil))) (pe_tup (pa_cons (pe_ix ix_tup (pv 1) pe_int (fun _ _ => rfl)) (pa_cons (pe_ix ix_tup (pv 1) pe_int (fun _ _ => rfl)) pa_nil))) (nomark _))), ?_⟩
    refine ⟨_, rfl, p, _, _, _, rfl, rfl, S1, atI_nat (j := 0) rfl, _, rfl, p, _, _, _, rfl, rfl, S1, atI_nat (j := 1) rfl, by show 2 ≤ sizeLine; decide, fun a na => ?_⟩
    have s1 := same_upd (o := .tup [.int t1, .int h1]) na
    have S2' := same_seqT s1 S2
    refine ⟨_, rfl, q, _, _, _, rfl, rfl, S2', atI_nat (j := 0) rfl, _, rfl, q, _, _, _, rfl, rfl, S2', atI_nat (j := 1) rfl, by show 2 ≤ sizeLine; decide, fun b nb => ?_⟩
    have s2 := same_upd (o := .tup [.int t2, .int h2]) nb
    refine ⟨a, b, [t1, h1], [t2, h2], rfl, rfl, SqT.of (s2 _ _ upd_same), SqT.of upd_same, ?_⟩
    exact k _ (s1.trans s2)
/-! ### _law_second: any number -/
def sp_law_second (K : PySem.W.Frag) : Sp := fun vs H Q _ => ∃ (f l c : Int), vs = [.int f, .int l, .int c] ∧ l ≤ 1 ∧ ∀ r : Int, Q (.int r) H
theorem ok_law_second (T : Tx K mg) : FnOk P w K mg base CX0 1 T.a_law_second T.d_law_second ["_law_first", "_law_least", "_law_cell"] (sp_law_second K) := by
  refine T.F_law_second.ok sc_law_second (fun vs H Q E h => ?_) (fun cdv A outer s H vs Q E hr h => ?_)
  · obtain ⟨f, l, c, rfl, _⟩ := h
    rfl
  · obtain ⟨f, l, c, rfl, hl, k⟩ := h
    refine ⟨_, pss_cons (ps_if (pt_cmpR op_eq (pe_op op_mod (pv 2) pe_int) pe_int (nomark _)) (pss_one (ps_ret (pv 0))) pss_nil)
      (pss_cons (ps_if (pt_cmpR op_eq (pe_op op_mod (pv 2) pe_int) pe_int (nomark _)) (pss_one (ps_ret (pe_op op_add (pv 1) (pe_op op_mod (pe_op op_sub (pe_op op_add (pv 0) pe_int) (pv 1)) (pe_op op_sub (pe_op op_add (pe_op op_pow pe_int pe_int) pe_int) (pv 1)))))) pss_nil)
      (pss_cons (ps_if (pt_cmpR op_eq (pe_op op_mod (pv 2) pe_int) pe_int (nomark _)) (pss_one (ps_ret (pe_op op_add (pv 1) (pe_op op_mod (pe_op op_fdiv (pv 2) pe_int) pe_int)))) pss_nil)
      (pss_one (ps_ret (pe_op op_add (pv 1) (pe_op op_mod (pe_op op_fdiv (pv 2) pe_int) (pe_op op_sub (pe_op op_add (pe_op op_pow pe_int pe_int) pe_int) (pv 1)))))))), ?_⟩
    have hp := p60
    walk_at "rd"
    refine ite2 (fun _ => ?_) (fun _ => ?_)
    · walk_at "rd"
      exact k _
    walk_at "rd"
    refine ite2 (fun _ => ?_) (fun _ => ?_)
    · walk_at "rd"
      exact k _
    walk_at "rd"
    refine ite2 (fun _ => ?_) (fun _ => ?_)
    · walk_at "rd"
      exact k _
    walk_at "rd"
    exact k _
/-! ### law -/
def sp_law (K : PySem.W.Frag) : Sp := fun vs H Q _ => ∃ (a : Addr) (ns : List Int), vs = [.ref a] ∧ SqL K H a (ns.map V.int) ∧ ns.length ≤ 63 ∧ ∀ H', Q (.bl true) H'
set_option maxHeartbeats 4000000 in
theorem ok_law (T : Tx K mg) : FnOk P w K mg base CX0 2 T.a_law T.d_law ["_law_script"] (sp_law K) := by
  refine T.F_law.ok sc_law (fun vs H Q E h => ?_) (fun cdv A outer s H vs Q E hr h => ?_)
  · obtain ⟨a, ns, rfl, _⟩ := h
    rfl
  · obtain ⟨a, ns, rfl, hS, hlen, k⟩ := h
    refine ⟨_, pss_cons (ps_set (i := 1) sc_law.nd rfl (.inl rfl) (pe_op op_add pe_int (pe_op op_mod (pe_call (ok_law_cell_at T) (hr.mono (by decide)) (by rfl) T.g_law_cell_at T.F_law_cell_at.kp T.b_law_cell_at .nil pass0 (pa_cons (pv 0) (pa_cons pe_int pa_nil))) (pe_op op_pow pe_int pe_int))))
      (pss_cons (ps_set (i := 2) sc_law.nd rfl (.inl rfl) (pe_op op_mod (pe_call (ok_law_cell_at T) (hr.mono (by decide)) (by rfl) T.g_law_cell_at T.F_law_cell_at.kp T.b_law_cell_at .nil pass0 (pa_cons (pv 0) (pa_cons pe_int pa_nil))) (pe_op op_add (pe_op op_pow pe_int pe_int) pe_int)))
      (pss_cons (ps_set (i := 3) sc_law.nd rfl (.inl rfl) (pe_op op_mod (pe_call (ok_law_cell_at T) (hr.mono (by decide)) (by rfl) T.g_law_cell_at T.F_law_cell_at.kp T.b_law_cell_at .nil pass0 (pa_cons (pv 0) (pa_cons pe_int pa_nil))) pe_int))
      (pss_cons (ps_set (i := 4) sc_law.nd rfl (.inl rfl) (pe_tup (pa_cons (pv 1) (pa_cons (pv 2) (pa_cons (pe_op op_add pe_int (pv 3)) (pa_cons (pe_op op_sub pe_int (pv 3)) pa_nil))))))
      (pss_cons (ps_set (i := 5) sc_law.nd rfl (.inl rfl) (pe_tup (pa_cons (pe_call (ok_law_second T) (hr.mono (by decide)) (by rfl) T.g_law_second T.F_law_second.kp T.b_law_second .nil pass0 (pa_cons (pv 1) (pa_cons pe_int (pa_cons (pe_call (ok_law_cell_at T) (hr.mono (by decide)) (by rfl) T.g_law_cell_at T.F_law_cell_at.kp T.b_law_cell_at .nil pass0 (pa_cons (pv 0) (pa_cons pe_int pa_nil))) pa_nil)))) (pa_cons (pe_call (ok_law_second T) (hr.mono (by decide)) (by rfl) T.g_law_second T.F_law_second.kp T.b_law_second .nil pass0 (pa_cons (pv 2) (pa_cons pe_int (pa_cons (pe_call (ok_law_cell_at T) (hr.mono (by decide)) (by rfl) T.g_law_cell_at T.F_law_cell_at.kp T.b_law_cell_at .nil pass0 (pa_cons (pv 0) (pa_cons pe_int pa_nil))) pa_nil)))) (pa_cons pe_int (pa_cons pe_int pa_nil))))))
      (pss_cons (ps_set (i := 6) sc_law.nd rfl (.inl rfl) (pe_or (pe_cmpR op_lt (pe_ix ix_tup (pv 4) pe_int (fun _ _ => rfl)) (pe_ix ix_tup (pv 5) pe_int (fun _ _ => rfl)) (nomark _)) (pe_one (pe_and (pe_cmpR op_eq (pe_ix ix_tup (pv 4) pe_int (fun _ _ => rfl)) (pe_ix ix_tup (pv 5) pe_int (fun _ _ => rfl)) (nomark _)) (pe_one (pe_cmpR op_lt (pe_ix ix_tup (pv 4) pe_int (fun _ _ => rfl)) (pe_ix ix_tup (pv 5) pe_int (fun _ _ => rfl)) (nomark _)))))))
      (pss_cons (ps_set (i := 7) sc_law.nd rfl (.inl rfl) (pe_or (pe_cmpR op_lt (pe_ix ix_tup (pv 5) pe_int (fun _ _ => rfl)) (pe_ix ix_tup (pv 4) pe_int (fun _ _ => rfl)) (nomark _)) (pe_one (pe_and (pe_cmpR op_eq (pe_ix ix_tup (pv 4) pe_int (fun _ _ => rfl)) (pe_ix ix_tup (pv 5) pe_int (fun _ _ => rfl)) (nomark _)) (pe_one (pe_cmpR op_lt (pe_ix ix_tup (pv 5) pe_int (fun _ _ => rfl)) (pe_ix ix_tup (pv 4) pe_int (fun _ _ => rfl)) (nomark _)))))))
      (pss_cons (ps_for PassesOwn.never rfl (pi_list (pe_lst (pa_cons (pe_call (ok_ahead T) (hr.mono (by decide)) (by rfl) T.g_ahead T.F_ahead.kp T.b_ahead .nil pass0 (pa_cons (pv 4) (pa_cons (pv 5) pa_nil))) (pa_cons (pe_call (ok_ahead T) (hr.mono (by decide)) (by rfl) T.g_ahead T.F_ahead.kp T.b_ahead .nil pass0 (pa_cons (pv 5) (pa_cons (pv 4) pa_nil))) (pa_cons (pe_call (ok_ahead T) (hr.mono (by decide)) (by rfl) T.g_ahead T.F_ahead.kp T.b_ahead .nil pass0 (pa_cons (pv 4) (pa_cons (pv 4) pa_nil))) pa_nil))))) (pg_name (i := 8) sc_law.nd rfl (Or.inl rfl)) (pss_one (ps_if (pt_not (pt_val (pe_callB call_isi (by rfl) T.m_isinstance (by decide +kernel) (pa_cons (pv 8) (pa_cons (pe_bltn (v := .ty "bool") (by rfl) T.m_bool (by decide +kernel) rfl) pa_nil))))) (pss_one (ps_ret pe_bl)) pss_nil)))
      (pss_one (ps_ret (pe_and (pe_cmpR op_eq (pe_call (ok_ahead T) (hr.mono (by decide)) (by rfl) T.g_ahead T.F_ahead.kp T.b_ahead .nil pass0 (pa_cons (pv 4) (pa_cons (pv 5) pa_nil))) (pv 6) (nomark _)) (pe_and (pe_cmpR op_eq (pe_call (ok_ahead T) (hr.mono (by decide)) (by rfl) T.g_ahead T.F_ahead.kp T.b_ahead .nil pass0 (pa_cons (pv 5) (pa_cons (pv 4) pa_nil))) (pv 7) (nomark _)) (pe_one (pe_not (pe_call (ok_ahead T) (hr.mono (by decide)) (by rfl) T.g_ahead T.F_ahead.kp T.b_ahead .nil pass0 (pa_cons (pv 4) (pa_cons (pv 4) pa_nil)))))))))))))))), ?_⟩
    have hp := p60
    -- time, hand, under
    walk_at "rd"
    refine ⟨by show 4 ≤ sizeLine; decide, fun p1 n1 => ?_⟩
    have s1 : Same H (upd H p1 (HO.tup [V.int (1 + cellOf ns (Int.toNat 0) % 10 ^ Int.toNat 60), V.int (cellOf ns (Int.toNat 1) % (10 ^ Int.toNat 60 + 1)), V.int (1 + cellOf ns (Int.toNat 4) % 2), V.int (2 - cellOf ns (Int.toNat 4) % 2)])) := same_upd n1
    have hS1 := s1.seq hS
    walk_at "rd"
    refine ⟨_, _, _, rfl, by decide, fun r1 => ?_⟩
    walk_at "rd"
    refine ⟨_, _, _, rfl, by decide, fun r2 => ?_⟩
    walk_at "rd"
    refine ⟨by show 4 ≤ sizeLine; decide, fun p2 n2 => ?_⟩
    have s2 := same_upd (o := HO.tup [V.int r1, V.int r2, V.int 2, V.int 1]) n2
    have T1 := SqT.of (K := K) (s2 _ _ upd_same)
    have T2 := SqT.of (K := K) (upd_same (H := upd H p1 (HO.tup [V.int (1 + cellOf ns (Int.toNat 0) % 10 ^ Int.toNat 60), V.int (cellOf ns (Int.toNat 1) % (10 ^ Int.toNat 60 + 1)), V.int (1 + cellOf ns (Int.toNat 4) % 2), V.int (2 - cellOf ns (Int.toNat 4) % 2)])) (a := p2) (o := HO.tup [V.int r1, V.int r2, V.int 2, V.int 1]))
    walk_at "rd"
    refine ite2 (fun e1 => ?_) (fun e1 => ?_)
    all_goals (walk_at "rd"; refine ite2 (fun e2 => ?_) (fun e2 => ?_))
    all_goals (walk_at "rd"; try refine ite2 (fun e3 => ?_) (fun e3 => ?_))
    all_goals (walk_at "rd"; try refine ite2 (fun e4 => ?_) (fun e4 => ?_))
    all_goals walk_at "rd"
    all_goals
      refine ⟨_, _, _, _, _, _, _, _, _, _, rfl, T1, T2, fun H3 s3 => ?_⟩
      have T1 := same_seqT s3 T1
      have T2 := same_seqT s3 T2
      walk_at "rd"
      refine ⟨_, _, _, _, _, _, _, _, _, _, rfl, T2, T1, fun H4 s4 => ?_⟩
      have T1 := same_seqT s4 T1
      have T2 := same_seqT s4 T2
      walk_at "rd"
      refine ⟨_, _, _, _, _, _, _, _, _, _, rfl, T1, T1, fun H5 s5 => ?_⟩
      have T1 := same_seqT s5 T1
      have T2 := same_seqT s5 T2
      refine ⟨by show 3 ≤ sizeLine; decide, fun l nl => ?_⟩
      have s6 := fun o => same_upd (o := o) nl
      refine ⟨l, rfl, ⟨_, SqL.of upd_same⟩, for_list (K := K) (a := l) (xs := [_, _, _].map V.bl) (fun i σ H2 => ∃ v8, σ = [_, _, _, _, _, _, _, _, v8] ∧ Same _ H2)
        ⟨none, rfl, Same.refl _⟩ (fun i σ H2 _ ⟨_, _, s2⟩ => SqL.of (s2 _ _ upd_same)) ?_ ?_⟩
      · rintro i y σ H2 hi ⟨v8, rfl, s2⟩
        obtain ⟨b, rfl⟩ := get_bl hi
        refine ⟨_, rfl, ?_⟩
        refine ⟨_, _, _, _, _, rfl, .ty _, .base (.bl _), kit_ty kbb, ?_⟩
        exact ⟨_, rfl, iteF ⟨_, rfl, s2⟩⟩
      · rintro σ H2 ⟨v8, rfl, s2⟩
        have T1 := same_seqT ((s6 _).trans s2) T1
        have T2 := same_seqT ((s6 _).trans s2) T2
        refine ⟨_, rfl, _, rfl, _, _, _, _, _, _, _, _, _, _, rfl, T1, T2, fun H7 s7 => ?_⟩
        walk_at "rd"
        refine ite2 (fun _ => ?_) (fun z => absurd ?_ z)
        rotate_left
        · first
          | exact decide_eq_true (congrArg V.bl (leaf1 (of_decide_eq_true e1)))
          | exact decide_eq_true (congrArg V.bl (leaf2 (V.int.inj (of_decide_eq_true e2))))
          | exact decide_eq_true (congrArg V.bl (leaf3 (fun z => e1 (decide_eq_true z)) (fun z => e2 (decide_eq_true (congrArg V.int z)))))
        walk_at "rd"
        refine ⟨_, _, _, _, _, _, _, _, _, _, rfl, same_seqT s7 T2, same_seqT s7 T1, fun H8 s8 => ?_⟩
        walk_at "rd"
        refine ite2 (fun _ => ?_) (fun z => absurd ?_ z)
        rotate_left
        · first
          | exact decide_eq_true (congrArg V.bl (leaf1 (of_decide_eq_true e2)))
          | exact decide_eq_true (congrArg V.bl (leaf1 (of_decide_eq_true e3)))
          | exact decide_eq_true (congrArg V.bl (leaf2 (V.int.inj (of_decide_eq_true e3)).symm))
          | exact decide_eq_true (congrArg V.bl (leaf2 (V.int.inj (of_decide_eq_true e4)).symm))
          | exact decide_eq_true (congrArg V.bl (leaf3 (fun z => e2 (decide_eq_true z)) (fun z => e3 (decide_eq_true (congrArg V.int z.symm)))))
          | exact decide_eq_true (congrArg V.bl (leaf3 (fun z => e3 (decide_eq_true z)) (fun z => e4 (decide_eq_true (congrArg V.int z.symm)))))
        walk_at "rd"
        refine ⟨_, _, _, _, _, _, _, _, _, _, rfl, same_seqT s8 (same_seqT s7 T1), same_seqT s8 (same_seqT s7 T1), fun H9 s9 => ?_⟩
        refine ⟨_, rfl, ?_⟩
        have z := k H9
        rw [aheadB_self]
        exact z
end
theorem all_mk {l : PySem.W.OpenLaw} {w : World} {K : PySem.W.Frag} {h : Heap} {mg : Str → Option Value} {fa : Addr} (X : K.In h) (G : h.Ns mainGlobals mg) (hfa : mg "law" = some (.ref fa))
    {f0 : Addr} {od0 an0 : Option Addr} {sl0 : Array (Option Value)} {oc0 kV0 dc0 pm0 cd0 ct0 : Value} {f1 : Addr} {od1 an1 : Option Addr} {sl1 : Array (Option Value)} {oc1 kV1 dc1 pm1 cd1 ct1 : Value} {f2 : Addr} {od2 an2 : Option Addr} {sl2 : Array (Option Value)} {oc2 kV2 dc2 pm2 cd2 ct2 : Value} {f3 : Addr} {od3 an3 : Option Addr} {sl3 : Array (Option Value)} {oc3 kV3 dc3 pm3 cd3 ct3 : Value}
    (a0 : PySem.W.nsIn K mainGlobals "ahead" = some (some (.ref f0))) (l0 : K.lookup f0 = some ⟨oc0, od0, .func (PySem.W.fnOf "ahead" "ahead" (defArgs s_ahead) (defBody s_ahead) (defScope s_ahead) .none kV0 dc0 pm0 an0 cd0 ct0), sl0⟩) (c0 : PySem.W.codeIn K cd0 "ahead" = true) (k0 : PySem.W.keepIn K (.ref f0) = true)
    (a1 : PySem.W.nsIn K mainGlobals "_law_cell_at" = some (some (.ref f1))) (l1 : K.lookup f1 = some ⟨oc1, od1, .func (PySem.W.fnOf "_law_cell_at" "_law_cell_at" (defArgs s_law_cell_at) (defBody s_law_cell_at) (defScope s_law_cell_at) .none kV1 dc1 pm1 an1 cd1 ct1), sl1⟩) (c1 : PySem.W.codeIn K cd1 "_law_cell_at" = true) (k1 : PySem.W.keepIn K (.ref f1) = true)
    (a2 : PySem.W.nsIn K mainGlobals "_law_second" = some (some (.ref f2))) (l2 : K.lookup f2 = some ⟨oc2, od2, .func (PySem.W.fnOf "_law_second" "_law_second" (defArgs s_law_second) (defBody s_law_second) (defScope s_law_second) .none kV2 dc2 pm2 an2 cd2 ct2), sl2⟩) (c2 : PySem.W.codeIn K cd2 "_law_second" = true) (k2 : PySem.W.keepIn K (.ref f2) = true)
    (a3 : PySem.W.nsIn K mainGlobals "law" = some (some (.ref f3))) (l3 : K.lookup f3 = some ⟨oc3, od3, .func (PySem.W.fnOf "law" "law" (defArgs s_law) (defBody s_law) (defScope s_law) .none kV3 dc3 pm3 an3 cd3 ct3), sl3⟩) (c3 : PySem.W.codeIn K cd3 "law" = true) (k3 : PySem.W.keepIn K (.ref f3) = true)
    (z0 : PySem.W.nsIn K mainGlobals "bool" = some none)
    (z1 : PySem.W.nsIn K mainGlobals "isinstance" = some none)
    (z2 : PySem.W.nsIn K mainGlobals "len" = some none)
    : ∃ fd : FuncData, (∀ (s : Shared) (v : Value), BindsTo s fd ⟨[v], []⟩ [("_law_script", v)]) ∧ ∀ base : Heap, K.In base → base.Ns mainGlobals mg → FnOk l.prog w K mg base CX0 2 fa fd ["_law_script"] (sp_law K) := by
  have e := hfa.symm.trans (PySem.W.mg_of X G a3)
  cases e
  have F0 := fun_mk (st := s_ahead) l0 c0 k0
  have b0 := F0.binds (ps := ["one", "other"]) fun _ _ _ _ _ _ us hl => match us, hl with | [_, _], _ => rfl
  have F1 := fun_mk (st := s_law_cell_at) l1 c1 k1
  have b1 := F1.binds (ps := ["_law_script", "_law_k"]) fun _ _ _ _ _ _ us hl => match us, hl with | [_, _], _ => rfl
  have F2 := fun_mk (st := s_law_second) l2 c2 k2
  have b2 := F2.binds (ps := ["_law_first", "_law_least", "_law_cell"]) fun _ _ _ _ _ _ us hl => match us, hl with | [_, _, _], _ => rfl
  have F3 := fun_mk (st := s_law) l3 c3 k3
  have b3 := F3.binds (ps := ["_law_script"]) fun _ _ _ _ _ _ us hl => match us, hl with | [_], _ => rfl
  refine ⟨PySem.W.fnOf "law" "law" (defArgs s_law) (defBody s_law) (defScope s_law) .none kV3 dc3 pm3 an3 cd3 ct3, fun s v => .of_eq rfl, fun base _ _ => ?_⟩
  exact ok_law ⟨f0, _, F0, b0, PySem.W.mg_of X G a0, f1, _, F1, b1, PySem.W.mg_of X G a1, f2, _, F2, b2, PySem.W.mg_of X G a2, fa, _, F3, b3, PySem.W.mg_of X G a3, PySem.W.mg_none_of X G z0, PySem.W.mg_none_of X G z1, PySem.W.mg_none_of X G z2⟩
end Tm
open PySem PySem.W PyProof.Rows
set_option maxHeartbeats 0 in
theorem PySem.Challenge.cw_treemove_k01_told_order_holds : PySem.Challenge.rw_treemove_k01_told_order.Holds := by
  w_on; o_law; k_head; (case hw => w_witness2)
  k_fill
  refine L2.walk_of (l := PySem.Challenge.rw_treemove_k01_told_order) (n := 63) (k := 2) (x := "_law_script") (CX := fun _ => L2.CX0) (sp := fun w => Tm.sp_law _) rfl (by decide) rfl ⟨rfl, by decide, by decide⟩ (fun w h Y => PySem.W.kIn_of Y) ?F (fun _ _ a ns hl _ hS => ⟨a, ns, rfl, hS, hl, fun _ => rfl⟩) (fun _ _ _ _ _ h => h)
  case F =>
    intro w mg fa h KX G hmg
    refine' Tm.all_mk KX G hmg ?a0 ?l0 ?c0 ?k0 ?a1 ?l1 ?c1 ?k1 ?a2 ?l2 ?c2 ?k2 ?a3 ?l3 ?c3 ?k3 ?z0 ?z1 ?z2
    (case a0 => k_is); (case l0 => k_is); (case c0 => k_is); (case k0 => k_is); (case a1 => k_is); (case l1 => k_is)
    (case c1 => k_is); (case k1 => k_is); (case a2 => k_is); (case l2 => k_is); (case c2 => k_is); (case k2 => k_is)
    (case a3 => k_is); (case l3 => k_is); (case c3 => k_is); (case k3 => k_is); (case z0 => k_is); (case z1 => k_is)
    (case z2 => k_is)
