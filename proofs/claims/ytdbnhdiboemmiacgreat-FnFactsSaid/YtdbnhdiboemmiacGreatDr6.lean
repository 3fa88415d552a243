/- DERIVED. CONTRACT: spec.l05Draw: a project drawn. -/
import Derived.Test.YtdbnhdiboemmiacGreatDr5
import Derived.Test.YtdbnhdiboemmiacGreatCore
import Derived.Deep.CutRange
import Derived.Deep.DeepCutAuto
namespace Go.Proofs.YtdbnhdiboemmiacGreat
open Go.RowKit

/-- Parts of a project as they are drawn. -/
def DrR (r : Rs) : Prop := (DrP r.st ∧ r.st.length ≤ 3) ∧ (r.su = [] ∨ (r.su.length = 4 ∧ DrSu r.su))
def DrS (s : List Int) : Prop := s.length ≤ 1 ∧ ∀ x ∈ s, 0 ≤ x ∧ x < 6
def DrL (n : Nat) (l : Lk) : Prop := 0 ≤ l.fr ∧ l.fr < n ∧ 0 ≤ l.to ∧ l.to < n ∧ l.fr ≠ l.to ∧ -12 ≤ l.lag ∧ l.lag ≤ 2
structure DrPj (most : Nat) (p : Pj) : Prop where
  dl : 12 ≤ p.dl ∧ p.dl < 24
  ress : 1 ≤ p.ress.length ∧ p.ress.length ≤ 2 ∧ ∀ r ∈ p.ress, DrR r
  stk : DrS p.stk
  acts : 1 ≤ p.acts.length ∧ p.acts.length ≤ most ∧ ∀ i, (h : i < p.acts.length) → DrA i p.ress.length p.stk.length p.acts[i]
  lks : p.lks.length ≤ 3 ∧ ∀ l ∈ p.lks, DrL p.acts.length l
theorem infoRes : (Tryz.prog.info? 74).map (fun i => (i.zero, i.size, i.bytes)) = some (some (.agg #[.slice none 0 0, .slice none 0 0]), 2, 48) := by kernel_rfl
theorem infoAct : (Tryz.prog.info? 55).map (fun i => (i.zero, i.size, i.bytes)) = some (some (.agg #[.string ⟨#[]⟩, .int .i64 0, .slice none 0 0]), 3, 48) := by kernel_rfl
theorem infoLink : (Tryz.prog.info? 79).map (fun i => (i.zero, i.size, i.bytes)) = some (some (.agg #[.int .i64 0, .int .i64 0, .bool false, .int .i64 0]), 4, 32) := by kernel_rfl

theorem new4_cell (w : World) (x y z u : Value) (t : TypeId) : ∀ j r, [x, y, z, u][j]? = some r → (w.alloc (.cells #[x, y, z, u] t)).cell? ((⟨w.heap.size, 0, none⟩ : Addr).add j) = some r := by
  obtain ⟨h0, h1, h2, h3, _⟩ := (Bk.new w t #[x, y, z, u]).c4
  intro j r hu
  match j, hu with
  | 0, hu => simp at hu; subst hu; exact h0
  | 1, hu => simp at hu; subst hu; exact h1
  | 2, hu => simp at hu; subst hu; exact h2
  | 3, hu => simp at hu; subst hu; exact h3
  | j + 4, hu => simp at hu
/-- The four lists of a project and its deadline: the whole. -/
theorem Sd.proj {W0 w W : World} {g : Nat} {A : Option Addr} {c : Nat} {bs : List Int} {L : List Item} {l a s r : Item} (h : Sd W0 w g A c bs (l :: a :: s :: r :: L) W) (d : Value) :
    (Tr.agg [.one d, a.t, l.t, r.t, s.t]).own W w.heap.size (.agg ⟨[d, a.v, l.v, r.v, s.v]⟩) ([] ++ (a.F ++ (l.F ++ (r.F ++ (s.F ++ []))))) ∧ ([] ++ (a.F ++ (l.F ++ (r.F ++ (s.F ++ []))))).Nodup := by
  obtain ⟨ol, nl, pl, oa, na, pa, os, ns, ps, or, nr, pr, rest⟩ := h.items
  refine ⟨⟨_, rfl, d, _, [], _, rfl, ⟨rfl, rfl⟩, ⟨a.v, _, a.F, _, rfl, oa, ⟨l.v, _, l.F, _, rfl, ol, ⟨r.v, _, r.F, _, rfl, or, ⟨s.v, _, s.F, _, rfl, os, ⟨rfl, rfl⟩, rfl⟩, rfl⟩, rfl⟩, rfl⟩, rfl⟩, ?_⟩
  have hla := pl a (by simp)
  have hls := pl s (by simp)
  have hlr := pl r (by simp)
  have has := pa s (by simp)
  have har := pa r (by simp)
  have hsr := ps r (by simp)
  rw [List.nil_append, List.append_nil]
  have n1 : (r.F ++ s.F).Nodup := List.nodup_append.2 ⟨nr, ns, fun p hp q hq e => hsr q hq (e ▸ hp)⟩
  have n2 : (l.F ++ (r.F ++ s.F)).Nodup := List.nodup_append.2 ⟨nl, n1, fun p hp q hq e => by
    rcases List.mem_append.1 hq with hq | hq
    · exact hlr p hp (e ▸ hq)
    · exact hls p hp (e ▸ hq)⟩
  exact List.nodup_append.2 ⟨na, n2, fun p hp q hq e => by
    rcases List.mem_append.1 hq with hq | hq
    · exact hla q hq (e ▸ hp)
    · rcases List.mem_append.1 hq with hq | hq
      · exact har p hp (e ▸ hq)
      · exact has p hp (e ▸ hq)⟩

set_option maxRecDepth 100000 in
set_option maxHeartbeats 8000000 in
theorem draw5_any (most : Nat) (hmost : 1 ≤ most ∧ most ≤ 6) (g : Nat) (A : Option Addr) (c : Nat) (bs : List Int) (W0 w : World) (h : Drw W0 w g A c bs) :
    Calls Tryz.prog 15 #[.pointer (some ⟨g, 0, none⟩), .int .i64 (most : Int)] w fun e w' => ∃ v p F, e = .returned v ∧ DrPj most p ∧ (trPj p).own w' w.heap.size v F ∧ F.Nodup ∧ Drw W0 w' g A c bs ∧ w.grownBy w' (some g) := by
  obtain ⟨i0, hi0, hz0, hz1, hz2⟩ := info_parts infoInt
  obtain ⟨ir, hr0, hrz, hrs, hrb⟩ := info_parts infoRes
  obtain ⟨ia, ha0, haz, has, hab⟩ := info_parts infoAct
  obtain ⟨il, hl0, hlz, hls, hlb⟩ := info_parts infoLink
  have S0 := Lib.hid ((Sd.start h).box 28 [.int .i64 0, .slice none 0 0, .slice none 0 0, .slice none 0 0, .slice none 0 0])
  clear h
  go_enter Tryz.func15, Tryz.ntmps15
  go_wp2_with fail
  refine (below_small 12 (by omega) (by omega) g A c bs W0 _ S0.out.drw).mono ?_
  rintro e w1 ⟨r1, rfl, hr11, hr12, hd, hg⟩
  have S1 := Lib.hid ((S0.out.call hd hg).box 28 [.int .i64 (12 + r1), .slice none 0 0, .slice none 0 0, .slice none 0 0, .slice none 0 0])
  clear S0 hd hg
  go_wp2_with fail
  refine (below_small 4 (by omega) (by omega) g A c bs W0 _ S1.out.drw).mono ?_
  rintro e w2 ⟨r2, rfl, hr21, hr22, hd, hg⟩
  have S2 := Lib.hid (S1.out.call hd hg)
  clear S1 hd hg
  obtain ⟨k, hk⟩ : ∃ k : Nat, r2 / 2 = k := ⟨(r2 / 2).toNat, by omega⟩
  have hk2 : k ≤ 1 := by omega
  go_wp2
  rw [hk]
  clear hk
  go_loopw [6] (fun kk wr => ∃ (q : Nat) (rs : List Rs) (R : Option Addr) (cr : Nat) (Fr : List Nat), kk = .int .i64 q ∧ q + rs.length ≤ 2 ∧ 1 ≤ q + rs.length ∧ (∀ r ∈ rs, DrR r) ∧
    Sd W0 w g A c bs [⟨trRs rs, .slice R rs.length cr, Fr⟩, boxI w1.heap.size 28 [.int .i64 (12 + r1), .slice none 0 0, .slice none 0 0, .slice R rs.length cr, .slice none 0 0], boxI w.heap.size 28 [.int .i64 0, .slice none 0 0, .slice none 0 0, .slice none 0 0, .slice none 0 0]] wr) (fun kk _ => (intOf kk).toNat)
  case atStart => exact ⟨1 + k, [], none, 0, [], by go_num, by show 1 + k + 0 ≤ 2; omega, by show 1 ≤ 1 + k + 0; omega, fun m hm => (by cases hm), S2.out.nil _ _ _⟩
  case round =>
    obtain ⟨q, rs, R, cr, Fr, rfl, hq2, hq1, hrsd, hS⟩ := hrel
    have S4 := Lib.hid hS
    have HRS := Lib.hid hrsd
    clear hS hrsd
    by_cases hq0 : q = 0
    · subst hq0
      have hrs1 : 1 ≤ rs.length := by omega
      have hrs2 : rs.length ≤ 2 := by omega
      go_wp2_with fail
      refine (once_any 3 (by omega) (by omega) g A c bs W0 _ S4.out.drw).mono ?_
      rintro e w3 ⟨rb, rfl, hd, hg⟩
      have S5 := Lib.hid (S4.out.call hd hg)
      clear S4 hd hg
      go_upto_if 40 with (fail)
      go_cut [] from 41 to 44 (fun wx => ∃ (stk : List Int) (T : Option Addr) (ct : Nat) (Fs : List Nat), DrS stk ∧ Sd W0 w g A c bs [⟨trI stk, .slice T stk.length ct, Fs⟩, ⟨trRs rs, .slice R rs.length cr, Fr⟩, boxI w1.heap.size 28 [.int .i64 (12 + r1), .slice none 0 0, .slice none 0 0, .slice R rs.length cr, .slice T stk.length ct], boxI w.heap.size 28 [.int .i64 0, .slice none 0 0, .slice none 0 0, .slice none 0 0, .slice none 0 0]] wx)
      case first =>
        rcases rb with _ | _
        · go_wp2_with fail
          go_meet
          case rel => exact ⟨[], none, 0, [], ⟨Nat.zero_le _, fun x hx => (by cases hx)⟩, S5.out.nilF _⟩
        · go_wp2_with fail
          refine (below_small 6 (by omega) (by omega) g A c bs W0 _ S5.out.drw).mono ?_
          rintro e w6 ⟨r6, rfl, hr61, hr62, hd, hg⟩
          have S6 := Lib.hid ((S5.out.call hd hg).row1 r6)
          clear S5 hd hg
          obtain ⟨p0, p1, p2, p3, p4, pf⟩ := (S6.out.bk 2 rfl).c5
          have S7 := Lib.hid (S6.out.boxSet 2 rfl 4 (.slice (some ⟨w6.heap.size, 0, none⟩) 1 1))
          go_wp2_with fail
          go_meet
          case rel => exact ⟨[r6], some ⟨w6.heap.size, 0, none⟩, 1, _, ⟨Nat.le_refl _, fun x hx => by simp at hx; subst hx; exact ⟨hr61, hr62⟩⟩, S7.out⟩
      case rest =>
        obtain ⟨stk, T, ct, Fs, hstk, hS⟩ := hcut
        have S6 := Lib.hid hS
        have HST := Lib.hid hstk
        have hst1 := hstk.1
        clear hS hstk S5
        go_wp2_with fail
        refine (below_small most (by omega) (by omega) g A c bs W0 _ S6.out.drw).mono ?_
        rintro e w7 ⟨r7, rfl, hr71, hr72, hd, hg⟩
        obtain ⟨n7, rfl⟩ : ∃ n : Nat, r7 = (n : Int) := ⟨r7.toNat, by omega⟩
        have S7 := Lib.hid ((S6.out.call hd hg).nil 55 3 cellsA)
        clear S6 hd hg
        go_wp2
        go_loopw [8] (fun kk wr => ∃ (q : Nat) (al : List Ac) (Aa : Option Addr) (ca : Nat) (Fa : List Nat), kk = .int .i64 q ∧ q + al.length ≤ most ∧ 1 ≤ q + al.length ∧ (∀ i, (h : i < al.length) → DrA i rs.length stk.length al[i]) ∧
          Sd W0 w g A c bs [⟨trAs al, .slice Aa al.length ca, Fa⟩, ⟨trI stk, .slice T stk.length ct, Fs⟩, ⟨trRs rs, .slice R rs.length cr, Fr⟩, boxI w1.heap.size 28 [.int .i64 (12 + r1), .slice Aa al.length ca, .slice none 0 0, .slice R rs.length cr, .slice T stk.length ct], boxI w.heap.size 28 [.int .i64 0, .slice none 0 0, .slice none 0 0, .slice none 0 0, .slice none 0 0]] wr) (fun kk _ => (intOf kk).toNat)
        case atStart => exact ⟨1 + n7, [], none, 0, [], by go_num, by show 1 + n7 + 0 ≤ most; omega, by show 1 ≤ 1 + n7 + 0; omega, fun i h => (by cases h), S7.out⟩
        case round =>
          obtain ⟨q, al, Aa, ca, Fa, rfl, hq2, hq1, hald, hS⟩ := hrel
          have S4 := Lib.hid hS
          have HAL := Lib.hid hald
          clear hS hald
          by_cases hq0 : q = 0
          · subst hq0
            have ha1 : 1 ≤ al.length := by omega
            have ha2 : al.length ≤ most := by omega
            obtain ⟨p0, p1, p2, p3, p4, pf⟩ := (S4.out.bk 3 rfl).c5
            have hbp := (S4.out.bk 3 rfl).lt
            go_wp2_with fail
            refine (below_small 4 (by omega) (by omega) g A c bs W0 _ S4.out.drw).mono ?_
            rintro e w9 ⟨r9, rfl, hr91, hr92, hd, hg⟩
            obtain ⟨n9, rfl⟩ : ∃ n : Nat, r9 = (n : Int) := ⟨r9.toNat, by omega⟩
            have S9 := Lib.hid ((S4.out.call hd hg).nil 79 4 cellsL)
            clear S4 hd hg p0 p1 p2 p3 p4 pf hbp
            go_wp2
            go_loopw [10] (fun kk wr => ∃ (q : Nat) (ls : List Lk) (LL : Option Addr) (cl : Nat) (Fl : List Nat), kk = .int .i64 q ∧ q + ls.length ≤ 3 ∧ (∀ l ∈ ls, DrL al.length l) ∧
              Sd W0 w g A c bs [⟨trLs ls, .slice LL ls.length cl, Fl⟩, ⟨trAs al, .slice Aa al.length ca, Fa⟩, ⟨trI stk, .slice T stk.length ct, Fs⟩, ⟨trRs rs, .slice R rs.length cr, Fr⟩, boxI w1.heap.size 28 [.int .i64 (12 + r1), .slice Aa al.length ca, .slice LL ls.length cl, .slice R rs.length cr, .slice T stk.length ct], boxI w.heap.size 28 [.int .i64 0, .slice none 0 0, .slice none 0 0, .slice none 0 0, .slice none 0 0]] wr) (fun kk _ => (intOf kk).toNat)
            case atStart => exact ⟨n9, [], none, 0, [], by go_num, by show n9 + 0 ≤ 3; omega, fun l h => (by cases h), S9.out⟩
            case round =>
              obtain ⟨q, ls, LL, cl, Fl, rfl, hq3, hlsd, hS⟩ := hrel
              have S4 := Lib.hid hS
              have HLS := Lib.hid hlsd
              clear hS hlsd S9
              by_cases hq0 : q = 0
              · subst hq0
                obtain ⟨p0, p1, p2, p3, p4, pf⟩ := (S4.out.bk 4 rfl).c5
                obtain ⟨z0, z1, z2, z3, z4, zf⟩ := (S4.out.bk 5 rfl).c5
                have SZ := Lib.hid (((((S4.out.boxSet 5 rfl 0 (.int .i64 (12 + r1))).boxSet 5 rfl 1 (.slice Aa al.length ca)).boxSet 5 rfl 2 (.slice LL ls.length cl)).boxSet 5 rfl 3 (.slice R rs.length cr)).boxSet 5 rfl 4 (.slice T stk.length ct))
                go_wp2
                have HD := Lib.hid (show DrPj most ⟨12 + r1, al, ls, rs, stk⟩ from ⟨⟨by show 12 ≤ 12 + r1; omega, by show 12 + r1 < 24; omega⟩, ⟨hrs1, hrs2, HRS.out⟩, HST.out, ⟨ha1, ha2, HAL.out⟩, ⟨by show ls.length ≤ 3; omega, HLS.out⟩⟩)
                refine bodyPost_ret (v := .agg #[.int .i64 (12 + r1), .slice Aa al.length ca, .slice LL ls.length cl, .slice R rs.length cr, .slice T stk.length ct]) (by simp [results, Tryz.results15, go_sem, z0, z1, z2, z3, z4]) rfl ?_
                first
                  | exact ⟨_, ⟨12 + r1, al, ls, rs, stk⟩, _, rfl, HD.out, (SZ.out.proj (.int .i64 (12 + r1))).1, (SZ.out.proj (.int .i64 (12 + r1))).2, SZ.out.drw, wr_grown SZ.out.wr⟩
                  | exact ⟨_, rfl, ⟨12 + r1, al, ls, rs, stk⟩, HD.out, _, (SZ.out.proj (.int .i64 (12 + r1))).1, (SZ.out.proj (.int .i64 (12 + r1))).2, SZ.out.drw, wr_grown SZ.out.wr⟩
              · obtain ⟨p, rfl⟩ : ∃ p, q = p + 1 := ⟨q - 1, by omega⟩
                have hpos : (0 : Int) < ((p + 1 : Nat) : Int) := by omega
                by_cases hng : ¬ (1 : Int) < (al.length : Int)
                · obtain ⟨p0, p1, p2, p3, p4, pf⟩ := (S4.out.bk 4 rfl).c5
                  obtain ⟨z0, z1, z2, z3, z4, zf⟩ := (S4.out.bk 5 rfl).c5
                  have SZ := Lib.hid (((((S4.out.boxSet 5 rfl 0 (.int .i64 (12 + r1))).boxSet 5 rfl 1 (.slice Aa al.length ca)).boxSet 5 rfl 2 (.slice LL ls.length cl)).boxSet 5 rfl 3 (.slice R rs.length cr)).boxSet 5 rfl 4 (.slice T stk.length ct))
                  go_wp2
                  have HD := Lib.hid (show DrPj most ⟨12 + r1, al, ls, rs, stk⟩ from ⟨⟨by show 12 ≤ 12 + r1; omega, by show 12 + r1 < 24; omega⟩, ⟨hrs1, hrs2, HRS.out⟩, HST.out, ⟨ha1, ha2, HAL.out⟩, ⟨by show ls.length ≤ 3; omega, HLS.out⟩⟩)
                  refine bodyPost_ret (v := .agg #[.int .i64 (12 + r1), .slice Aa al.length ca, .slice LL ls.length cl, .slice R rs.length cr, .slice T stk.length ct]) (by simp [results, Tryz.results15, go_sem, z0, z1, z2, z3, z4]) rfl ?_
                  first
                    | exact ⟨_, ⟨12 + r1, al, ls, rs, stk⟩, _, rfl, HD.out, (SZ.out.proj (.int .i64 (12 + r1))).1, (SZ.out.proj (.int .i64 (12 + r1))).2, SZ.out.drw, wr_grown SZ.out.wr⟩
                    | exact ⟨_, rfl, ⟨12 + r1, al, ls, rs, stk⟩, HD.out, _, (SZ.out.proj (.int .i64 (12 + r1))).1, (SZ.out.proj (.int .i64 (12 + r1))).2, SZ.out.drw, wr_grown SZ.out.wr⟩
                · have hng : (1 : Int) < (al.length : Int) := by omega
                  go_wp2_with fail
                  refine (below_small ((al.length : Int) - 1) (by omega) (by omega) g A c bs W0 _ S4.out.drw).mono ?_
                  rintro e wa ⟨ra, rfl, hra1, hra2, hd, hg⟩
                  have S5 := Lib.hid (S4.out.call hd hg)
                  clear S4 hd hg
                  go_wp2_with fail
                  refine (below_small ((al.length : Int) - 1 - ra) (by omega) (by omega) g A c bs W0 _ S5.out.drw).mono ?_
                  rintro e wb ⟨rb, rfl, hrb1, hrb2, hd, hg⟩
                  have S6 := Lib.hid (S5.out.call hd hg)
                  clear S5 hd hg
                  go_wp2_with fail
                  refine (once_any 3 (by omega) (by omega) g A c bs W0 _ S6.out.drw).mono ?_
                  rintro e wv ⟨oc, rfl, hd, hg⟩
                  have S7 := Lib.hid (S6.out.call hd hg)
                  clear S6 hd hg
                  go_wp2_with fail
                  refine (below_small 3 (by omega) (by omega) g A c bs W0 _ S7.out.drw).mono ?_
                  rintro e wd ⟨rd, rfl, hrd1, hrd2, hd, hg⟩
                  have S8 := Lib.hid ((S7.out.call hd hg).box 79 [.int .i64 ra, .int .i64 (ra + 1 + rb), .bool (!oc), .int .i64 rd])
                  clear S7 hd hg
                  go_wp2_with fail
                  refine (once_any 6 (by omega) (by omega) g A c bs W0 _ S8.out.drw).mono ?_
                  rintro e we ⟨oe, rfl, hd, hg⟩
                  have S9 := Lib.hid (S8.out.call hd hg)
                  clear S8 hd hg
                  go_upto_if 103 with (fail)
                  go_cut [] from 104 to 111 (fun wx => ∃ (fr tw : Int) (fe : Bool) (lag : Int), DrL al.length ⟨fr, tw, fe, lag⟩ ∧
                    Sd W0 w g A c bs [boxI wd.heap.size 79 [.int .i64 fr, .int .i64 tw, .bool fe, .int .i64 lag], ⟨trLs ls, .slice LL ls.length cl, Fl⟩, ⟨trAs al, .slice Aa al.length ca, Fa⟩, ⟨trI stk, .slice T stk.length ct, Fs⟩, ⟨trRs rs, .slice R rs.length cr, Fr⟩, boxI w1.heap.size 28 [.int .i64 (12 + r1), .slice Aa al.length ca, .slice LL ls.length cl, .slice R rs.length cr, .slice T stk.length ct], boxI w.heap.size 28 [.int .i64 0, .slice none 0 0, .slice none 0 0, .slice none 0 0, .slice none 0 0]] wx)
                  case first =>
                    rcases oe with _ | _
                    · go_wp2_with fail
                      go_meet
                      case rel => exact ⟨ra, ra + 1 + rb, !oc, rd, ⟨by show 0 ≤ ra; omega, by show ra < _; omega, by show 0 ≤ ra + 1 + rb; omega, by show ra + 1 + rb < _; omega, by show ra ≠ ra + 1 + rb; omega, by show -12 ≤ rd; omega, by show rd ≤ 2; omega⟩, S9.out⟩
                    · have S9d := Lib.hid S9.out.drew
                      obtain ⟨q0, q1, q2, q3, qf⟩ := (S9.out.bk 0 rfl).c4
                      have hbq := (S9.out.bk 0 rfl).lt
                      go_wp2
                      go_region_law (go_simp; go_at_call 17; refine (below_small 9 (by omega) (by omega) g A c bs W0 _ S9d.out.drw).mono ?_; rintro e wy ⟨ry, rfl, hry1, hry2, hd, hg⟩; have SY := Lib.hid (S9d.out.call hd hg); obtain ⟨e0, e1, e2, e3, ef⟩ := (SY.out.bk 0 rfl).c4; have hby := (SY.out.bk 0 rfl).lt; clear hd hg)
                      all_goals
                        have SX := Lib.hid ((((SY.out.boxSet 0 rfl 0 (.int .i64 (ra + 1 + rb))).boxSet 0 rfl 1 (.int .i64 ra)).boxSet 0 rfl 2 (.bool false)).boxSet 0 rfl 3 (.int .i64 (-4 - ry)))
                        clear SY S9 S9d q0 q1 q2 q3 qf hbq e0 e1 e2 e3 ef
                        go_wp2_with fail
                        go_meet
                        case rel =>
                          try rw [show IntKind.i64.wrap (-4 - ry) = -4 - ry from by rw [IntKind.wrap_i64]; omega]
                          exact ⟨ra + 1 + rb, ra, false, -4 - ry, ⟨by show 0 ≤ ra + 1 + rb; omega, by show ra + 1 + rb < _; omega, by show 0 ≤ ra; omega, by show ra < _; omega, by show ra + 1 + rb ≠ ra; omega, by show -12 ≤ -4 - ry; omega, by show -4 - ry ≤ 2; omega⟩, SX.out⟩
                  case rest =>
                    obtain ⟨fr, tw, fe, lag, hdl, hS⟩ := hcut
                    have SX := Lib.hid hS
                    have HDL := Lib.hid hdl
                    clear hS hdl S9
                    obtain ⟨q0, q1, q2, q3, qf⟩ := (SX.out.bk 0 rfl).c4
                    obtain ⟨p0, p1, p2, p3, p4, pf⟩ := (SX.out.bk 5 rfl).c5
                    have hbq := (SX.out.bk 0 rfl).lt
                    have hbp := (SX.out.bk 5 rfl).lt
                    have SM := Lib.hid (SX.out.drop.plain [.int .i64 (fr), .int .i64 (tw), .bool (fe), .int .i64 (lag)])
                    obtain ⟨vs, G, ov, ol, hF⟩ := rows_raw (SX.out.own 1 rfl).1
                    have OV := Lib.hid ov
                    have OL := Lib.hid ol
                    have HF := Lib.hid hF
                    have hsz := SX.out.wr.size
                    clear ov ol hF
                    go_wp2_with (first | (at_builtin; refine wpList_append_own_at _ rfl (.tmp 113) (.tmp 115) 24 rfl w.heap.size 79 il (.agg #[.int .i64 0, .int .i64 0, .bool false, .int .i64 0]) 4 32 Tryz.underlying24 hl0 hlz hls hlb rfl (by decide) (.slice LL ls.length cl) ls.length vs rfl (by exact OV.out.alloc _) ⟨wc.heap.size, 0, none⟩ 1 1 [.int .i64 (fr), .int .i64 (tw), .bool (fe), .int .i64 (lag)] rfl rfl ?c1 ?c2 ?c3 ?c4 ?c5 ?_))
                    try case c1 => exact new4_cell _ _ _ _ _ _
                    case c2 => simp [Value.oneCell']
                    case c3 => unfold maxLen; omega
                    case c4 => omega
                    case c5 => first | omega | (simp; omega)
                    intro v' w8 hown8 hg8 _ hat8
                    obtain ⟨F9, h9⟩ := Sd.appG (f := cellsL) (x := ⟨fr, tw, fe, lag⟩) rfl SM.out OL.out HF.out hown8 hg8 (by simpa using hat8)
                    have HL9 := Lib.hid (show (ls ++ [(⟨fr, tw, fe, lag⟩ : Lk)]).length = ls.length + 1 from by simp)
                    obtain ⟨R9, c9, hv9⟩ := rows_slice (h9.rd 0 rfl)
                    rw [HL9.out] at hv9
                    subst hv9
                    have S9 := Lib.hid h9
                    have HR9 := Lib.hid (show ∀ l ∈ ls ++ [(⟨fr, tw, fe, lag⟩ : Lk)], DrL al.length l from by
                      intro r hr
                      rcases List.mem_append.1 hr with hr | hr
                      · exact HLS.out r hr
                      · simp at hr; subst hr; exact HDL.out)
                    clear hown8 hg8 hat8 h9 q0 q1 q2 q3 qf p0 p1 p2 p3 p4 pf hbq hbp SM
                    obtain ⟨p0, p1, p2, p3, p4, pf⟩ := (S9.out.bk 4 rfl).c5
                    have SF := Lib.hid (S9.out.boxSet 4 rfl 2 (.slice R9 (ls.length + 1) c9))
                    go_wp2
                    go_roundw
                    case rel => exact ⟨p, ls ++ [⟨fr, tw, fe, lag⟩], R9, c9, F9, by go_num, by rw [HL9.out]; omega, HR9.out, by rw [HL9.out]; exact SF.out⟩
                    case measure => simp [intOf]
          · obtain ⟨p, rfl⟩ : ∃ p, q = p + 1 := ⟨q - 1, by omega⟩
            have hpos : (0 : Int) < ((p + 1 : Nat) : Int) := by omega
            have hl6 : al.length < 6 := by omega
            obtain ⟨p0, p1, p2, p3, p4, pf⟩ := (S4.out.bk 3 rfl).c5
            have hbp := (S4.out.bk 3 rfl).lt
            have S4d := Lib.hid S4.out.drew
            go_wp2
            go_region_law (first
              | (refine step_append_lies _ (by rfl) (.tmp 54) (.tmp 66) 23 (by rfl) w.heap.size 55 ia (.agg #[.string ⟨#[]⟩, .int .i64 0, .slice none 0 0]) 3 48 Tryz.underlying23 ha0 haz has hab rfl (by decide) (.slice Aa al.length ca) al.length vs (by rfl) (by exact OV.out.alloc _) ⟨w8.heap.size, 0, none⟩ 1 1 [.string a8.nm, .int .i64 a8.fa, .slice X8 a8.ms.length x8] (by rfl) (by rfl) (by exact new3_cell _ _ _ _ _) (by simp [Value.oneCell']) (by decide) (by unfold maxLen; omega) (by omega) (by have := S8.out.wr.size; simp; omega) (w8.heap.size + 1) (by simp) ?_; intro g' c' w9 hown9 hg9 hat9 hlt9; obtain ⟨F9, h9⟩ := Sd.appG (f := cellsA) (x := a8) rfl S8.out OL.out HF.out hown9 hg9 (by rcases hat9 with h | h; exact .inl h.symm; exact .inr (congrArg some h)); have S9 := Lib.hid h9; obtain ⟨d0, d1, d2, d3, d4, df⟩ := (S9.out.bk 3 rfl).c5; have hb9 := (S9.out.bk 3 rfl).lt)
              | (go_simp; go_at_call 40; refine (draw4_any g A c bs W0 _ al.length rs.length stk.length hl6 (by omega) (by omega) S4d.out.drw).mono ?_; rintro e w8 ⟨v8, a8, F8, rfl, hDA, ho, hn, hd, hg⟩; obtain ⟨X8, x8, rfl⟩ := shapeA (Tr.own_rd _ _ _ ho); have S8 := Lib.hid (S4d.out.new ho hn hd hg); have HDA := Lib.hid hDA; obtain ⟨vs, G, ov, ol, hF⟩ := rows_raw (S8.out.own 1 rfl).1; have OV := Lib.hid ov; have OL := Lib.hid ol; have HF := Lib.hid hF; obtain ⟨e0, e1, e2, e3, e4, ef⟩ := (S8.out.bk 4 rfl).c5; have hb8 := (S8.out.bk 4 rfl).lt; clear ho hn hd hg hDA ov ol hF))
            all_goals
              have HL9 := Lib.hid (show (al ++ [a8]).length = al.length + 1 from by simp)
              have HA9 := Lib.hid (show ∀ i, (h : i < (al ++ [a8]).length) → DrA i rs.length stk.length (al ++ [a8])[i] from fun i h => by
                by_cases hi : i < al.length
                · rw [List.getElem_append_left hi]; exact HAL.out i hi
                · have e : i = al.length := by rw [HL9.out] at h; omega
                  subst e
                  rw [List.getElem_append_right (Nat.le_refl _)]
                  simpa using HDA.out)
              have SF := Lib.hid (S9.out.boxSet 3 rfl 1 (.slice (some ⟨g', 0, none⟩) (al.length + 1) c'))
              clear S8 S9 S4d OV OL HF hown9 hg9 hat9 hlt9 h9 HDA e0 e1 e2 e3 e4 ef p0 p1 p2 p3 p4 pf
              go_wp2
              go_roundw
              case rel => exact ⟨p, al ++ [a8], some ⟨g', 0, none⟩, c', F9, by go_num, by rw [HL9.out]; omega, by rw [HL9.out]; omega, HA9.out, by rw [HL9.out]; exact SF.out⟩
              case measure => simp [intOf]
    · obtain ⟨p, rfl⟩ : ∃ p, q = p + 1 := ⟨q - 1, by omega⟩
      have hpos : (0 : Int) < ((p + 1 : Nat) : Int) := by omega
      go_wp2_with fail
      refine (draw3_any g A c bs W0 _ S4.out.drw).mono ?_
      rintro e w4 ⟨v4, xs, rfl, hxs, ho, hd, hg⟩
      have S5 := S4.out.new (own_pairs ho).1 (own_pairs ho).2 hd hg
      obtain ⟨X4, x4, rfl⟩ := rows_slice (S5.rd 0 rfl)
      have S5 := Lib.hid (S5.box 74 [.slice X4 xs.length x4, .slice none 0 0])
      have HXS := Lib.hid hxs
      clear S4 ho hd hg hxs
      go_wp2_with fail
      refine (once_any 3 (by omega) (by omega) g A c bs W0 _ S5.out.drw).mono ?_
      rintro e w5 ⟨rb, rfl, hd, hg⟩
      have S6 := Lib.hid (S5.out.call hd hg)
      clear S5 hd hg
      rcases rb with _ | _
      · have S7 := Lib.hid (S6.out.nil 26 1 cellsI1)
        clear S6
        obtain ⟨q0, q1, qf⟩ := (S7.out.bk 1 rfl).c2
        obtain ⟨p0, p1, p2, p3, p4, pf⟩ := (S7.out.bk 4 rfl).c5
        have hbq := (S7.out.bk 1 rfl).lt
        have hbp := (S7.out.bk 4 rfl).lt
        have SM := Lib.hid S7.out.drop1.merge2
        obtain ⟨vs, G, ov, ol, hF⟩ := rows_raw (S7.out.own 3 rfl).1
        have OV := Lib.hid ov
        have OL := Lib.hid ol
        have HF := Lib.hid hF
        have hsz := S7.out.wr.size
        clear ov ol hF
        go_wp2_with (first | (at_builtin; refine wpList_append_own_at _ rfl (.tmp 34) (.tmp 36) 25 rfl w.heap.size 74 ir (.agg #[.slice none 0 0, .slice none 0 0]) 2 48 Tryz.underlying25 hr0 hrz hrs hrb rfl (by decide) (.slice R rs.length cr) rs.length vs rfl (by exact OV.out.alloc _) ⟨w5.heap.size, 0, none⟩ 1 1 [.slice X4 xs.length x4, .slice none 0 0] rfl rfl ?c1 ?c2 ?c3 ?c4 ?c5 ?_))
        try case c1 => first | exact new2_cell _ _ _ _ | (have hn := new2_cell (w6.setCell ⟨w4.heap.size, 1, none⟩ (.slice Y6 su.length y6)) (.slice X4 xs.length x4) (.slice Y6 su.length y6) 74; rw [hzz] at hn; exact hn)
        case c2 => simp [Value.oneCell']
        case c3 => unfold maxLen; omega
        case c4 => omega
        case c5 => first | omega | (simp; omega)
        intro v' w8 hown8 hg8 _ hat8
        obtain ⟨F9, h9⟩ := Sd.appG (f := cellsR) (x := ⟨xs, []⟩) rfl SM.out OL.out HF.out hown8 hg8 (by simpa using hat8)
        have HL9 := Lib.hid (show (rs ++ [(⟨xs, []⟩ : Rs)]).length = rs.length + 1 from by simp)
        obtain ⟨R9, c9, hv9⟩ := rows_slice (h9.rd 0 rfl)
        rw [HL9.out] at hv9
        subst hv9
        have S9 := Lib.hid h9
        have HR9 := Lib.hid (show ∀ r ∈ rs ++ [(⟨xs, []⟩ : Rs)], DrR r from by
          intro r hr
          rcases List.mem_append.1 hr with hr | hr
          · exact HRS.out r hr
          · simp at hr; subst hr; exact ⟨HXS.out, .inl rfl⟩)
        clear hown8 hg8 hat8 h9 q0 q1 qf p0 p1 p2 p3 p4 pf hbq hbp SM
        obtain ⟨p0, p1, p2, p3, p4, pf⟩ := (S9.out.bk 1 rfl).c5
        have SF := Lib.hid (S9.out.boxSet 1 rfl 3 (.slice R9 (rs.length + 1) c9))
        go_wp2
        go_roundw
        case rel => exact ⟨p, rs ++ [⟨xs, []⟩], R9, c9, F9, by go_num, by rw [HL9.out]; omega, by rw [HL9.out]; omega, HR9.out, by rw [HL9.out]; exact SF.out⟩
        case measure => simp [intOf]
      · go_wp2_with fail
        refine (setup_any g A c bs W0 _ S6.out.drw).mono ?_
        rintro e w6 ⟨v6, su, F6, rfl, hsu, ho, hn, hd, hg⟩
        have S7 := S6.out.new ho hn hd hg
        obtain ⟨Y6, y6, rfl⟩ := rows_slice (S7.rd 0 rfl)
        have HSU := Lib.hid hsu
        have S8 := Lib.hid (S7.boxSet 1 rfl 1 (.slice Y6 su.length y6))
        obtain ⟨u0, u1, uf⟩ := (S7.bk 1 rfl).c2
        have hbu := (S7.bk 1 rfl).lt
        have hzz : (w6.setCell ⟨w4.heap.size, 1, none⟩ (.slice Y6 su.length y6)).heap.size = w6.heap.size := by simp [World.setCell]
        clear S6 S7 ho hn hd hg hsu
        obtain ⟨q0, q1, qf⟩ := (S8.out.bk 1 rfl).c2
        obtain ⟨p0, p1, p2, p3, p4, pf⟩ := (S8.out.bk 4 rfl).c5
        have hbq := (S8.out.bk 1 rfl).lt
        have hbp := (S8.out.bk 4 rfl).lt
        have SM := Lib.hid S8.out.drop1.merge2
        obtain ⟨vs, G, ov, ol, hF⟩ := rows_raw (S8.out.own 3 rfl).1
        have OV := Lib.hid ov
        have OL := Lib.hid ol
        have HF := Lib.hid hF
        have hsz := S8.out.wr.size
        clear ov ol hF
        go_wp2_with (first | (at_builtin; refine wpList_append_own_at _ rfl (.tmp 34) (.tmp 36) 25 rfl w.heap.size 74 ir (.agg #[.slice none 0 0, .slice none 0 0]) 2 48 Tryz.underlying25 hr0 hrz hrs hrb rfl (by decide) (.slice R rs.length cr) rs.length vs rfl (by exact OV.out.alloc _) ⟨w6.heap.size, 0, none⟩ 1 1 [.slice X4 xs.length x4, .slice Y6 su.length y6] rfl rfl ?c1 ?c2 ?c3 ?c4 ?c5 ?_))
        try case c1 => first | exact new2_cell _ _ _ _ | (have hn := new2_cell (w6.setCell ⟨w4.heap.size, 1, none⟩ (.slice Y6 su.length y6)) (.slice X4 xs.length x4) (.slice Y6 su.length y6) 74; rw [hzz] at hn; exact hn)
        case c2 => simp [Value.oneCell']
        case c3 => unfold maxLen; omega
        case c4 => omega
        case c5 => first | omega | (simp; omega)
        intro v' w8 hown8 hg8 _ hat8
        obtain ⟨F9, h9⟩ := Sd.appG (f := cellsR) (x := ⟨xs, su⟩) rfl SM.out OL.out HF.out hown8 hg8 (by simpa using hat8)
        have HL9 := Lib.hid (show (rs ++ [(⟨xs, su⟩ : Rs)]).length = rs.length + 1 from by simp)
        obtain ⟨R9, c9, hv9⟩ := rows_slice (h9.rd 0 rfl)
        rw [HL9.out] at hv9
        subst hv9
        have S9 := Lib.hid h9
        have HR9 := Lib.hid (show ∀ r ∈ rs ++ [(⟨xs, su⟩ : Rs)], DrR r from by
          intro r hr
          rcases List.mem_append.1 hr with hr | hr
          · exact HRS.out r hr
          · simp at hr; subst hr; exact ⟨HXS.out, .inr HSU.out⟩)
        clear hown8 hg8 hat8 h9 q0 q1 qf p0 p1 p2 p3 p4 pf hbq hbp SM
        obtain ⟨p0, p1, p2, p3, p4, pf⟩ := (S9.out.bk 1 rfl).c5
        have SF := Lib.hid (S9.out.boxSet 1 rfl 3 (.slice R9 (rs.length + 1) c9))
        go_wp2
        go_roundw
        case rel => exact ⟨p, rs ++ [⟨xs, su⟩], R9, c9, F9, by go_num, by rw [HL9.out]; omega, by rw [HL9.out]; omega, HR9.out, by rw [HL9.out]; exact SF.out⟩
        case measure => simp [intOf]
end Go.Proofs.YtdbnhdiboemmiacGreat
