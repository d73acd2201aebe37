import Derived.Test.YtnoflfbcgbhipaaGreatHaiE
import Derived.Test.YtnoflfbcgbhipaaGreatOrdR
import Derived.Test.YtnoflfbcgbhipaaGreatSndG
import Derived.Test.YtnoflfbcgbhipaaGreatBeaC
import Derived.Test.YtnoflfbcgbhipaaGreatSesO
set_option linter.unusedSimpArgs false
set_option linter.unusedVariables false
namespace Go.Proofs.YtnoflfbcgbhipaaGreat.Oct
open Go.RowKit
structure Sa where
 k : Int
 t : Int
 f : Int
 h : Int
 p : Int
 o : Int
 s : Int
 a : Int
 l : List Int
structure Ms where
 x : Sv
 l : List Int
def Ms.abs (m : Ms) : Sa := ⟨m.x.k, m.x.t, m.x.f, m.x.h, m.x.p, m.x.o, m.x.s, m.x.a, m.l⟩
def Ms.fr (m : Ms) : FrV := ⟨m.x.A, m.x.n, m.x.c, m.l⟩
def Mok (w : World) (m : Ms) : Prop := Fok (fun _ => True) w m.fr
def Sv.ms (x : Sv) : Ms := ⟨x, []⟩
structure Bo where
 t : Int
 f : Int
 e : Int
 nx : Int
 said : Nat
 all : Nat
 ms : List (List Int)
 ix : Int
 q1 : Option (List Int)
 q2 : Option (List Int)
 q3 : Option (List Int)
 a : Int
 tr : Nat
 ow : Bool
def bo0 (t f e : Int) : Bo := ⟨t, f, e, 0, 0, 0, [], 0, none, none, none, 0, 0, false⟩
namespace Bo
variable (b : Bo)
def seg (k s a : Int) (l : List Int) : Sa := ⟨k, b.t, b.f, 12, b.e, 0, s, a, l⟩
def fk : Nat := min 4 b.ms.length - b.said
def dat (i n : Nat) : List Sa := (List.range n).map fun j => b.seg 5 (Ser.plusP b.nx (i + j : Nat)) 0 (b.ms.getD (i + j) [])
def due (now : Int) : Bool := decide (0 < b.a ∧ b.a ≤ now)
def starts : Bool := decide (0 < b.fk ∧ ¬ 0 < b.a)
def acks : List Sa := if b.ow then [b.seg 4 0 b.ix []] else []
def fresh : Bo := { b with ow := false, said := b.said + b.fk }
def says (now : Int) : List Sa := b.acks ++ b.dat b.said b.fk ++ (if b.starts then [] else if b.due now then b.dat 0 (b.said + b.fk) else [])
def saysB (now : Int) : Bo :=
 if b.starts then { b.fresh with a := now + 4, tr := 0 } else if b.due now then { b.fresh with a := now + wv 4 32 (b.tr + 1), tr := b.tr + 1 } else b.fresh
def heard (ack now : Int) : Bo :=
 if 0 < ackP b.nx b.said ack then
  { b with nx := ack, said := b.said - (ackP b.nx b.said ack).toNat, ms := b.ms.drop (ackP b.nx b.said ack).toNat, a := if (ackP b.nx b.said ack).toNat < b.said then now + 4 else 0, tr := 0 }
 else b
def far (s : Int) : Int := (s - b.ix) % 65536
def runs (s : Int) (l : List Int) : List (List Int) := if b.far s = 0 then l :: folG b.q1 b.q2 b.q3 else []
def orE (q : Option (List Int)) (l : List Int) : Option (List Int) := match q with | some x => some x | none => some l
def took (s : Int) (l : List Int) : Bo :=
 if b.far s = 0 then { b with ow := true, ix := Ser.plusP b.ix (1 + (folG b.q1 b.q2 b.q3).length : Nat), q1 := (rstG b.q1 b.q2 b.q3).1, q2 := (rstG b.q1 b.q2 b.q3).2.1, q3 := (rstG b.q1 b.q2 b.q3).2.2 }
 else if b.far s = 1 then { b with ow := true, q1 := orE b.q1 l }
 else if b.far s = 2 then { b with ow := true, q2 := orE b.q2 l }
 else if b.far s = 3 then { b with ow := true, q3 := orE b.q3 l }
 else { b with ow := true }
def hears (k s a : Int) (l : List Int) (now : Int) : Bo := if k = 4 then b.heard a now else if k = 5 then b.took s l else b
def gets (k s : Int) (l : List Int) : List (List Int) := if k = 5 then b.runs s l else []
def putE (o : OrdV) : Int := if (bytesO o).2 ≠ 0 then (bytesO o).2 else putSE (bytesO o).1.length b.ms.length b.all
def put (o : OrdV) : Bo := if b.putE o = 0 then { b with ms := b.ms ++ [(bytesO o).1], all := b.all + 1 } else b
end Bo
def tells (L : List (List Int)) : List OrdV := (L.map fun l => (parseO l).1).filter fun o => o.k != 0
structure Lb where
 b : Bo
 bt : Int
 q : Int
 soon : Bool
 fail : Bool
structure Ls where
 tz : Int
 s : Option Lb
namespace Lb
variable (x : Lb)
def opn : Bool := x.q == 3
def says (now : Int) : List Sa := if x.opn then x.b.says now else if x.soon || x.b.due now then [(saysC x.b.t x.b.e x.bt x.q).ms.abs] else []
def dueB (now : Int) : Bo := if x.soon then x.b else if x.b.due now then { x.b with a := now + wv 4 32 (x.b.tr + 1), tr := x.b.tr + 1 } else x.b
def bodyT (now : Int) : Bo := if x.opn then x.b.saysB now else x.dueB now
def tick (now : Int) : Lb := ⟨x.bodyT now, x.bt, x.q, if x.opn then x.soon else false, decide (8 ≤ (x.bodyT now).tr)⟩
def goes (m : Ms) : Bool := goC m.x x.b.t x.b.e x.q
def callB (m : Ms) (now : Int) : Bo := if qC m.x x.b.t x.b.e x.q = 3 then { x.b with a := 0, tr := 0 } else if x.goes m then { x.b with a := now + 4, tr := 0 } else x.b
def call (m : Ms) (now : Int) : Lb := ⟨x.callB m now, bC m.x x.b.t x.b.e x.bt x.q, qC m.x x.b.t x.b.e x.q, if qC m.x x.b.t x.b.e x.q = 3 then x.soon else x.goes m || x.soon, x.fail⟩
def mine (m : Ms) : Bool := m.x.ok && (m.x.f == x.b.t)
def ofE (m : Ms) : Bool := m.x.p == x.b.e
def take (m : Ms) (now : Int) : Lb := if x.mine m then (if x.opn then (if x.ofE m then { x with b := x.b.hears m.x.k m.x.s m.x.a m.l now } else x) else x.call m now) else x
def gets (m : Ms) : List (List Int) := if x.mine m && x.opn && x.ofE m then x.b.gets m.x.k m.x.s m.l else []
end Lb
namespace Ls
variable (x : Ls)
def on : Option Lb := match x.s with | some y => if y.fail then none else some y | none => none
def e : Int := match x.s with | some y => y.b.e | none => 0
def begE (e now : Int) : Int := if tickB now then (if e ≤ x.e ∨ 4294967295 < e then 130 else 0) else 2
def begin_ (e now : Int) : Ls := if x.begE e now = 0 then ⟨x.tz, some ⟨{ bo0 x.tz 0 e with a := now + 4 }, 0, 1, false, false⟩⟩ else x
def sendE (o : OrdV) : Int := match x.on with | some y => y.b.putE o | none => 180
def send (o : OrdV) : Ls := match x.on with | some y => ⟨x.tz, some { y with b := y.b.put o }⟩ | none => x
def says (now : Int) : List Sa := if tickB now then (match x.on with | some y => y.says now | none => []) else []
def tick (now : Int) : Ls := if tickB now then (match x.on with | some y => ⟨x.tz, some (y.tick now)⟩ | none => x) else x
def take (m : Ms) (now : Int) : Ls := if tickB now then (match x.on with | some y => ⟨x.tz, some (y.take m now)⟩ | none => x) else x
def gets (m : Ms) (now : Int) : List (List Int) := if tickB now then (match x.on with | some y => y.gets m | none => []) else []
def opn : Bool := match x.on with | some y => y.opn | none => false
def failed : Bool := match x.s with | some y => y.fail | none => false
def boot : Int := match x.s with | some y => y.bt | none => 0
end Ls
structure Ps where
 sf : Int
 bo : Int
 s : Option Bo
namespace Ps
variable (x : Ps)
def e : Int := match x.s with | some y => y.e | none => 0
def sendE (o : OrdV) : Int := match x.s with | some y => y.putE o | none => 180
def send (o : OrdV) : Ps := match x.s with | some y => ⟨x.sf, x.bo, some (y.put o)⟩ | none => x
def says (now : Int) : List Sa := if tickB now then (match x.s with | some y => y.says now | none => []) else []
def tick (now : Int) : Ps := if tickB now then (match x.s with | some y => ⟨x.sf, x.bo, some (y.saysB now)⟩ | none => x) else x
def beg (m : Ms) : Bool := begG m.x x.sf x.bo x.e
def isA (m : Ms) : Bool := isG m.x x.sf x.bo x.e
def bodyA (m : Ms) : Option Bo := if x.beg m then some (bo0 0 x.sf m.x.p) else x.s
def withA (y : Sv) (b : Option Bo) : Sv := if y.k = 4 then (match b with | some z => { y with a := z.ix } | none => y) else y
def ans (m : Ms) : Sv := withA (ansG m.x x.sf x.bo x.e) (x.bodyA m)
def mine (m : Ms) (y : Bo) : Bool := m.x.ok && (m.x.t == x.sf) && (m.x.p == y.e)
def take (m : Ms) (now : Int) : Ps :=
 if tickB now then (if x.isA m then ⟨x.sf, x.bo, x.bodyA m⟩ else match x.s with | some y => (if x.mine m y then ⟨x.sf, x.bo, some (y.hears m.x.k m.x.s m.x.a m.l now)⟩ else x) | none => x) else x
def gets (m : Ms) (now : Int) : List (List Int) :=
 if tickB now then (if x.isA m then [] else match x.s with | some y => (if x.mine m y then y.gets m.x.k m.x.s m.l else []) | none => []) else []
def answers (m : Ms) (now : Int) : Option Sv := if tickB now && x.isA m then some (x.ans m) else none
def begins (m : Ms) (now : Int) : Bool := tickB now && x.beg m
end Ps
end Go.Proofs.YtnoflfbcgbhipaaGreat.Oct
