/- DERIVED. Projects as data, and their trees. -/
import Derived.Test.YtfgmbgdbnjpclaaMod
namespace Go.Proofs.Ytfgmbgdbnjpclaa
open Go.RowKit

structure Rs where
  st : List (Int × Int)
  su : List (List Int)
structure Lk where
  fr : Int
  to : Int
  fe : Bool
  lag : Int
structure Pj where
  dl : Int
  acts : List Ac
  lks : List Lk
  ress : List Rs
  stk : List Int
def cellsPt (p : Int × Int) : List Tr := [.one (.int .i64 p.1), .one (.int .i64 p.2)]
theorem cellsPt_len (p : Int × Int) : (cellsPt p).length = 2 := rfl
def cellsI1 (l : List Int) : List Tr := [trI l]
theorem cellsI1_len (l : List Int) : (cellsI1 l).length = 1 := rfl
def trSt (xs : List (Int × Int)) : Tr := rows 132 2 cellsPt xs
def trSu (su : List (List Int)) : Tr := rows 37 1 cellsI1 su
def cellsR (r : Rs) : List Tr := [trSt r.st, trSu r.su]
theorem cellsR_len (r : Rs) : (cellsR r).length = 2 := rfl
def cellsL (l : Lk) : List Tr := [.one (.int .i64 l.fr), .one (.int .i64 l.to), .one (.bool l.fe), .one (.int .i64 l.lag)]
theorem cellsL_len (l : Lk) : (cellsL l).length = 4 := rfl
theorem cellsA_len (a : Ac) : (cellsA a).length = 3 := rfl
def trAs (al : List Ac) : Tr := rows 68 3 cellsA al
def trLs (ls : List Lk) : Tr := rows 97 4 cellsL ls
def trRs (rs : List Rs) : Tr := rows 30 2 cellsR rs
def cellsPj (p : Pj) : List Tr := [.one (.int .i64 p.dl), trAs p.acts, trLs p.lks, trRs p.ress, trI p.stk]
def trPj (p : Pj) : Tr := .agg (cellsPj p)

def trPt (p : Int × Int) : Tr := .agg (cellsPt p)
def trLk (l : Lk) : Tr := .agg (cellsL l)
def trR (r : Rs) : Tr := .agg (cellsR r)

theorem rows_slice {α : Type} {w : World} {e : TypeId} {s : Nat} {f : α → List Tr} {xs : List α} {v : Value} (h : (rows e s f xs).rd w v) : ∃ A c, v = .slice A xs.length c := by
  obtain ⟨vs, ⟨_, _, A, c, rfl, _⟩, _⟩ := h
  exact ⟨A, c, rfl⟩
end Go.Proofs.Ytfgmbgdbnjpclaa
