/- DERIVED. Clauses as text: mathematics: the one clause whose text it is. No dump. -/
import Derived.Test.YtgbpomakomddjabGreatDoorClM
import Derived.Test.YtgbpomakomddjabGreatDoorLtQ
namespace Go.Proofs.YtgbpomakomddjabGreatDoor
open Go.RowKit
set_option linter.unusedVariables false

-- the text of a literal tells the literal
theorem ltSg_inj {j k : Int} (hj : 1 ≤ j ∧ j ≤ 4) (hk : 1 ≤ k ∧ k ≤ 4) (h : lst (ltSg j) = lst (ltSg k)) : j = k := by
  rcases sg_list hj with ⟨e1, f1⟩ | ⟨e1, f1⟩ | ⟨e1, f1⟩ | ⟨e1, f1⟩ <;> rcases sg_list hk with ⟨e2, f2⟩ | ⟨e2, f2⟩ | ⟨e2, f2⟩ | ⟨e2, f2⟩ <;> first | omega | (rw [f1, f2] at h; exact absurd h (by decide))
theorem fmtLt_inj {p : Pj} {l q : Lt} (hl : litOkB p l = true) (hq : litOkB p q = true) (h : fmtLt p l = fmtLt p q) : l = q := by
  have h1 := (text_back hl).2.2.1
  have h2 := (text_back hq).2.2.1
  rw [h] at h1
  have a1 : plcB p.acts (wdF (fmtLt p q)) = l.ac := congrArg Lt.ac h1
  have a2 : plcB p.acts (wdF (fmtLt p q)) = q.ac := congrArg Lt.ac h2
  have v1 : (parseB (wdL (fmtLt p q))).1 = l.va := congrArg Lt.va h1
  have v2 : (parseB (wdL (fmtLt p q))).1 = q.va := congrArg Lt.va h2
  have ea : l.ac = q.ac := a1.symm.trans a2
  have ev : l.va = q.va := v1.symm.trans v2
  have hs : lst (ltSg l.ki) = lst (ltSg q.ki) := by
    have h3 := congrArg lst h
    rw [fmtLt_yes hl, fmtLt_yes hq, ea, ev, lst_app, lst_app, lst_app, lst_app, List.append_assoc, List.append_assoc] at h3
    exact List.append_cancel_right (List.append_cancel_left h3)
  exact lt_ext.2 ⟨ltSg_inj (lit_parts hl).2.1 (lit_parts hq).2.1 hs, ea, ev⟩
theorem res_acc {p : Pj} {s : ByteArray} (h : okLt p s = true) : litOkB p (resLt p s) = true ∧ fmtLt p (resLt p s) = s := by
  unfold okLt at h
  unfold resLt
  by_cases h1 : accLt p s 1 = true
  · rw [if_pos h1]; exact acc_text h1
  rw [if_neg h1]
  by_cases h2 : accLt p s 2 = true
  · rw [if_pos h2]; exact acc_text h2
  rw [if_neg h2]
  by_cases h3 : accLt p s 3 = true
  · rw [if_pos h3]; exact acc_text h3
  rw [if_neg h3]
  by_cases h4 : accLt p s 4 = true
  · rw [if_pos h4]; exact acc_text h4
  simp only [Bool.not_eq_true] at h1 h2 h3 h4
  rw [h1, h2, h3, h4] at h
  cases h
theorem ok_text {p : Pj} {l : Lt} (h : litOkB p l = true) : okLt p (fmtLt p l) = true := by
  have ha := (text_back h).2.1
  have hk := (lit_parts h).2.1
  have ek : l.ki = 1 ∨ l.ki = 2 ∨ l.ki = 3 ∨ l.ki = 4 := by omega
  unfold okLt
  rcases ek with e | e | e | e
  all_goals
    rw [e] at ha
    rw [ha]
    simp
theorem res_text {p : Pj} {l : Lt} (h : litOkB p l = true) : resLt p (fmtLt p l) = l := by
  obtain ⟨h1, h2⟩ := res_acc (ok_text h)
  exact fmtLt_inj h1 h h2
theorem okLt_no {p : Pj} {s : ByteArray} (h : okLt p s = false) : resLt p s = litNone := by
  unfold okLt at h
  simp only [Bool.or_eq_false_iff] at h
  obtain ⟨h1, h2, h3, h4⟩ := h
  unfold resLt
  rw [h1, h2, h3, h4]
  rfl
theorem litNone_no (p : Pj) : litOkB p litNone = false := by
  rcases h : litOkB p litNone with _ | _
  · rfl
  · have := (lit_parts h).2.1
    have e : litNone.ki = 0 := rfl
    omega
theorem okLt_lit (p : Pj) (s : ByteArray) : okLt p s = litOkB p (resLt p s) := by
  rcases h : okLt p s with _ | _
  · rw [okLt_no h, litNone_no]
  · exact (res_acc h).1.symm

-- words
theorem lt_noSp {p : Pj} {l : Lt} (h : litOkB p l = true) : ∀ k, byt (fmtLt p l) k ≠ (32 : UInt8).toNat := by
  obtain ⟨_, hk, hv, hn, _⟩ := lit_parts h
  have hQ : allB (fun c => c.toNat ≠ 32) (fmtLt p l) := by
    rw [fmtLt_yes h]
    refine allB_app (allB_app ((nm_all hn).weak fun c hc => ?_) ?_) ((fmt_num hv.1 hv.2).weak fun c hc => ?_)
    · unfold nameC at hc; omega
    · intro c hc
      rcases sg_list hk with ⟨_, e⟩ | ⟨_, e⟩ | ⟨_, e⟩ | ⟨_, e⟩
      all_goals
        rw [e] at hc
        revert hc
        simp only [List.mem_cons, List.not_mem_nil, or_false]
      · rintro (rfl | rfl) <;> decide
      · rintro (rfl | rfl) <;> decide
      · rintro rfl; decide
      · rintro (rfl | rfl) <;> decide
    · unfold numC at hc; omega
  exact allB_ne (d := 32) hQ (fun e => e rfl) (by decide)
theorem lt_size {p : Pj} {l : Lt} (h : litOkB p l = true) : 2 ≤ (fmtLt p l).size := by
  obtain ⟨_, hk, hv, hn, _⟩ := lit_parts h
  rw [fmtLt_yes h, size_app, size_app]
  have h1 : 1 ≤ (ltSg l.ki).size := by
    have e : (ltSg l.ki).size = (lst (ltSg l.ki)).length := (lst_len _).symm
    rw [e]
    rcases sg_list hk with ⟨_, e⟩ | ⟨_, e⟩ | ⟨_, e⟩ | ⟨_, e⟩ <;> rw [e] <;> simp
  simp only [nmB, Bool.and_eq_true, decide_eq_true_eq] at hn
  omega
def dashC : ByteArray := ⟨#[45]⟩
def wdC (s : ByteArray) : List ByteArray := splitB s (sepS 32)
noncomputable def txCl (p : Pj) (l : List Lt) : ByteArray := joinB (l.map (fmtLt p)) (sepS 32)
noncomputable def fmtCl (p : Pj) (l : List Lt) : ByteArray := if clOkB p l = true then (if l = [] then dashC else txCl p l) else ⟨#[]⟩
theorem fmtCl_no {p : Pj} {l : List Lt} (h : clOkB p l = false) : fmtCl p l = ⟨#[]⟩ := by rw [fmtCl, h]; simp
theorem fmtCl_nil (p : Pj) : fmtCl p [] = dashC := by rw [fmtCl, if_pos (clOk_nil p), if_pos rfl]
theorem fmtCl_yes {p : Pj} {l : List Lt} (h : clOkB p l = true) (h0 : l ≠ []) : fmtCl p l = txCl p l := by rw [fmtCl, if_pos h, if_neg h0]
theorem wd_tx {p : Pj} {l : List Lt} (h : ∀ x ∈ l, litOkB p x = true) (h0 : l ≠ []) : wdC (txCl p l) = l.map (fmtLt p) := by
  refine split_join_c (c := 32) (by decide) _ (fun x hx => ?_) (by simpa using h0)
  obtain ⟨y, hy, rfl⟩ := List.mem_map.1 hx
  exact lt_noSp (h y hy)
theorem wd_dash : wdC dashC = [dashC] := by decide
theorem okLt_dash (p : Pj) : okLt p dashC = false := by
  rcases h : okLt p dashC with _ | _
  · rfl
  · obtain ⟨h1, h2⟩ := res_acc h
    have h3 := lt_size h1
    rw [h2] at h3
    have : dashC.size = 1 := rfl
    omega
noncomputable def gsCl (p : Pj) (s : ByteArray) : List Lt := (wdC s).map (resLt p)
noncomputable def okCl (p : Pj) (s : ByteArray) : Bool := decide (s = dashC) || clOkB p (gsCl p s)
noncomputable def resCl (p : Pj) (s : ByteArray) : List Lt := if okCl p s = true then (if s = dashC then [] else gsCl p s) else []
theorem tx_dash {p : Pj} {l : List Lt} (h : ∀ x ∈ l, litOkB p x = true) (h0 : l ≠ []) : txCl p l ≠ dashC := fun e => by
  have h1 := wd_tx h h0
  rw [e, wd_dash] at h1
  obtain ⟨x, t, rfl⟩ : ∃ x t, l = x :: t := by
    cases l with
    | nil => exact absurd rfl h0
    | cons x t => exact ⟨x, t, rfl⟩
  simp only [List.map_cons, List.cons.injEq] at h1
  have h2 := lt_size (h x (by simp))
  rw [← h1.1] at h2
  have : dashC.size = 1 := rfl
  omega
theorem gs_tx {p : Pj} {l : List Lt} (h : ∀ x ∈ l, litOkB p x = true) (h0 : l ≠ []) : gsCl p (txCl p l) = l := by
  rw [gsCl, wd_tx h h0, List.map_map]
  have : ∀ x ∈ l, (resLt p ∘ fmtLt p) x = id x := fun x hx => res_text (h x hx)
  rw [List.map_congr_left this, List.map_id]
theorem wd_ne (s : ByteArray) : wdC s ≠ [] := by
  unfold wdC splitB
  simp
theorem gs_ne (p : Pj) (s : ByteArray) : gsCl p s ≠ [] := by
  unfold gsCl
  simpa using wd_ne s
/-- A list that the words give and that is a clause: its text is what was read. -/
theorem gs_back {p : Pj} {s : ByteArray} (h : ∀ x ∈ gsCl p s, litOkB p x = true) : txCl p (gsCl p s) = s := by
  unfold txCl gsCl
  rw [List.map_map]
  have : ∀ x ∈ wdC s, (fmtLt p ∘ resLt p) x = id x := fun x hx => by
    have h1 := h (resLt p x) (List.mem_map.2 ⟨x, hx, rfl⟩)
    rw [← okLt_lit] at h1
    exact (res_acc h1).2
  rw [List.map_congr_left this, List.map_id]
  exact join_split_c (c := 32) (by decide) s
theorem cl_text {p : Pj} {l : List Lt} (h : clOkB p l = true) : okCl p (fmtCl p l) = true ∧ resCl p (fmtCl p l) = l := by
  by_cases h0 : l = []
  · subst h0
    have ho : okCl p dashC = true := by simp [okCl]
    rw [fmtCl_nil]
    exact ⟨ho, by rw [resCl, if_pos ho, if_pos rfl]⟩
  · have hk := (clOk_of h).ok
    rw [fmtCl_yes h h0]
    have hg := gs_tx hk h0
    have ho : okCl p (txCl p l) = true := by rw [okCl, hg, h]; simp
    exact ⟨ho, by rw [resCl, if_pos ho, if_neg (tx_dash hk h0), hg]⟩
theorem cl_back {p : Pj} {s : ByteArray} (h : okCl p s = true) : clOkB p (resCl p s) = true ∧ fmtCl p (resCl p s) = s := by
  rw [resCl, if_pos h]
  by_cases e : s = dashC
  · subst e
    rw [if_pos rfl]
    exact ⟨clOk_nil p, fmtCl_nil p⟩
  · rw [if_neg e]
    have hc : clOkB p (gsCl p s) = true := by
      rw [okCl, decide_eq_false e] at h
      exact h
    exact ⟨hc, by rw [fmtCl_yes hc (gs_ne p s), gs_back (clOk_of hc).ok]⟩
theorem fmtCl_ne {p : Pj} {l : List Lt} (h : clOkB p l = true) : fmtCl p l ≠ ⟨#[]⟩ := fun e => by
  by_cases h0 : l = []
  · subst h0
    rw [fmtCl_nil] at e
    exact absurd e (by decide)
  · rw [fmtCl_yes h h0] at e
    have h1 := wd_tx (clOk_of h).ok h0
    rw [e] at h1
    have h2 : wdC ⟨#[]⟩ = [⟨#[]⟩] := by decide
    rw [h2] at h1
    obtain ⟨x, t, rfl⟩ : ∃ x t, l = x :: t := by
      cases l with
      | nil => exact absurd rfl h0
      | cons x t => exact ⟨x, t, rfl⟩
    simp only [List.map_cons, List.cons.injEq] at h1
    have h3 := lt_size ((clOk_of h).ok x (by simp))
    rw [← h1.1] at h3
    have : (⟨#[]⟩ : ByteArray).size = 0 := rfl
    omega
/-- Both ways to accept: that the words are a clause, or that the text of the guess is what was read. -/
theorem okCl_cmp {p : Pj} {s : ByteArray} (hd : s ≠ dashC) (hs : s ≠ ⟨#[]⟩) : okCl p s = decide (fmtCl p (gsCl p s) = s) := by
  rw [okCl, decide_eq_false hd, Bool.false_or]
  rcases hc : clOkB p (gsCl p s) with _ | _
  · rw [fmtCl_no hc]
    exact (decide_eq_false (Ne.symm hs)).symm
  · rw [fmtCl_yes hc (gs_ne p s), gs_back (clOk_of hc).ok]
    simp
theorem okCl_empty (p : Pj) : okCl p ⟨#[]⟩ = false := by
  have h2 : wdC ⟨#[]⟩ = [⟨#[]⟩] := by decide
  have h3 : ¬ (⟨#[]⟩ : ByteArray) = dashC := by decide
  rw [okCl, decide_eq_false h3, Bool.false_or, gsCl, h2]
  rcases h : clOkB p (List.map (resLt p) [⟨#[]⟩]) with _ | _
  · rfl
  · have h4 := (clOk_of h).ok (resLt p ⟨#[]⟩) (by simp)
    rw [← okLt_lit] at h4
    obtain ⟨h5, h6⟩ := res_acc h4
    have h7 := lt_size h5
    rw [h6] at h7
    have : (⟨#[]⟩ : ByteArray).size = 0 := rfl
    omega
theorem okCl_word {p : Pj} {s : ByteArray} {k : Nat} (hk : k < (wdC s).length) (hd : s ≠ dashC) (h : okLt p (wdC s)[k] = false) : okCl p s = false := by
  rw [okCl, decide_eq_false hd, Bool.false_or]
  rcases hc : clOkB p (gsCl p s) with _ | _
  · rfl
  · have h1 := (clOk_of hc).ok (resLt p (wdC s)[k]) (List.mem_map.2 ⟨_, List.getElem_mem hk, rfl⟩)
    rw [← okLt_lit, h] at h1
    cases h1
theorem resCl_no {p : Pj} {s : ByteArray} (h : okCl p s = false) : resCl p s = [] := by rw [resCl, h]; simp
theorem resCl_yes {p : Pj} {s : ByteArray} (h : okCl p s = true) (hd : s ≠ dashC) : resCl p s = gsCl p s := by rw [resCl, if_pos h, if_neg hd]
end Go.Proofs.YtgbpomakomddjabGreatDoor
