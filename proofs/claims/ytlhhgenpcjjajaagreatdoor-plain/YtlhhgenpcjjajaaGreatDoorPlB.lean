import Derived.Test.YtlhhgenpcjjajaaGreatDoorBdO
import Derived.Test.YtlhhgenpcjjajaaGreatDoorProg
import Derived.WalkKit
import Derived.WalkSpells
import Derived.WalkLawsBesides
import Derived.LaidEql
import Derived.Stop.Asserts
import Derived.RowKitTokens
import Derived.Test.YtlhhgenpcjjajaaGreatDoorKept
import Derived.Defers
import Derived.Recover
import Derived.Laws.Pointers
import Derived.Outline
import Derived.Deep.RegionWith
set_option linter.unusedSimpArgs false
set_option linter.unusedVariables false
namespace Go.Proofs.YtlhhgenpcjjajaaGreatDoor
open Go.RowKit
def S0 (d f l a : Nat) : Ab := { nodes := [.el ⟨⟨#[]⟩, [], none, []⟩], opn := [], act := [], head := none, form := none, mode := 0, kept := 0, waiting := [], fostering := false, quirks := false, at' := a, behind := false, ofT := ⟨#[]⟩, plainT := false, fresh := false, dep := d, frm := f, atl := l }
def kidsB : Option ByteArray → List Nd
  | none => []
  | some _ => [.tx 4]
def txB : Option ByteArray → List ANd
  | none => []
  | some s => [.tx s]
def SB (d f l a : Nat) (s : Option ByteArray) : Ab := { nodes := [.el ⟨⟨#[]⟩, [], none, [.el 1]⟩, .el ⟨(⟨#[104, 116, 109, 108]⟩ : ByteArray), [], some 0, [.el 2, .el 3]⟩, .el ⟨(⟨#[104, 101, 97, 100]⟩ : ByteArray), [], some 1, []⟩, .el ⟨(⟨#[98, 111, 100, 121]⟩ : ByteArray), [], some 1, kidsB s⟩] ++ txB s, opn := [some 1, some 3], act := [], head := some 2, form := none, mode := 6, kept := 0, waiting := [], fostering := false, quirks := true, at' := a, behind := false, ofT := ⟨#[]⟩, plainT := false, fresh := false, dep := d, frm := f, atl := l }
theorem noblank (x y : Nat) (s : ByteArray) (hb : isBlankS s = false) (sp : RSpec) : ruleOf sp ⟨x, y, .char s, []⟩ = firstR [sp.char, sp.others] := by simp [ruleOf, hb]
theorem asM_at (rm : Ru → ATok → M Unit) (m : Nat) (t : ATok) (sp : RSpec) (h : specs[m]? = some sp) (r : Ru) (hr : ruleOf sp t = r) : asM rm m t = rm r t := by
  unfold asM; rw [h, ← hr]
theorem takeF_at (n m : Nat) (t : ATok) (ho : okP t = true) (sp : RSpec) (h : specs[m]? = some sp) (r : Ru) (hr : ruleOf sp t = r) : takeF okP plainRm (n + 1) m t = plainRm (takeF okP plainRm n) r t := by
  rw [takeF, if_pos ho, asM_at _ m t sp h r hr]
theorem takeP_blank (d f l a x y : Nat) (s : ByteArray) (hb : isBlankS s = true) : TakeM takeP ⟨x, y, .char s, []⟩ (S0 d f l a) = .ok () (S0 d f l x) := by
  show takeP 0 ⟨x, y, .char s, []⟩ (S0 d f l x) = _
  have h0 : ruleOf (specs[0]) ⟨x, y, .char s, []⟩ = .nothing := by simp only [ruleOf, hb, ↓reduceIte]; rfl
  unfold takeP
  rw [takeF_at 7 0 _ rfl specs[0] rfl _ h0]
  rfl
theorem M.tail_run (g : M Unit) (σ : Ab) : (g >>= fun _ => (Pure.pure () : M Unit)) σ = g σ := by
  rw [M.bind_run]; cases g σ <;> rfl
def SH (d f l a : Nat) : Ab := { S0 d f l a with nodes := [.el ⟨⟨#[]⟩, [], none, [.el 1]⟩, .el ⟨(⟨#[104, 116, 109, 108]⟩ : ByteArray), [], some 0, []⟩], opn := [some 1], quirks := true, mode := 2 }
def SD (d f l a : Nat) : Ab := { S0 d f l a with nodes := [.el ⟨⟨#[]⟩, [], none, [.el 1]⟩, .el ⟨(⟨#[104, 116, 109, 108]⟩ : ByteArray), [], some 0, [.el 2]⟩, .el ⟨(⟨#[104, 101, 97, 100]⟩ : ByteArray), [], some 1, []⟩], opn := [some 1, some 2], head := some 2, quirks := true, mode := 3 }
def SE (d f l a : Nat) : Ab := { S0 d f l a with nodes := [.el ⟨⟨#[]⟩, [], none, [.el 1]⟩, .el ⟨(⟨#[104, 116, 109, 108]⟩ : ByteArray), [], some 0, [.el 2]⟩, .el ⟨(⟨#[104, 101, 97, 100]⟩ : ByteArray), [], some 1, []⟩], opn := [some 1], head := some 2, quirks := true, mode := 4 }
theorem u0 (d f l a : Nat) (g : Nat → ATok → M Unit) (t : ATok) : startWithoutDoctype g t (S0 d f l a) = g 1 t { S0 d f l a with quirks := true, mode := 1 } := M.tail_run (takeM g t) { S0 d f l a with quirks := true, mode := 1 }
theorem u1 (d f l a : Nat) (g : Nat → ATok → M Unit) (t : ATok) : impliedHTML g t { S0 (d + 4) f l a with quirks := true, mode := 1 } = g 2 t (SH (d + 4) f l a) := by
  have e : openHTML false [] { S0 (d + 4) f l a with quirks := true, mode := 1 } = .ok () (SH (d + 4) f l a) := rfl
  unfold impliedHTML
  rw [M.bind_run, e]
  exact M.tail_run (takeM g t) _
theorem u2 (d f l a : Nat) (g : Nat → ATok → M Unit) (t : ATok) : impliedHead g t (SH (d + 4) f l a) = g 3 t (SD (d + 4) f l a) := by
  have e : openHead false [] (SH (d + 4) f l a) = .ok () (SD (d + 4) f l a) := rfl
  unfold impliedHead
  rw [M.bind_run, e]
  exact M.tail_run (takeM g t) _
theorem u3 (d f l a : Nat) (g : Nat → ATok → M Unit) (t : ATok) : impliedEndOfHead g t (SD (d + 4) f l a) = g 4 t (SE (d + 4) f l a) := by
  have e : endHead (SD (d + 4) f l a) = .ok () (SE (d + 4) f l a) := rfl
  unfold impliedEndOfHead
  rw [M.bind_run, e]
  exact M.tail_run (takeM g t) _
theorem u4 (d f l a : Nat) (g : Nat → ATok → M Unit) (t : ATok) : impliedBody g t (SE (d + 4) f l a) = g 6 t (SB (d + 4) f l a none) := by
  have e : insertNamed (⟨#[98, 111, 100, 121]⟩ : ByteArray) (SE (d + 4) f l a) = .ok () { SB (d + 4) f l a none with mode := 4 } := rfl
  unfold impliedBody
  rw [M.bind_run, e]
  exact M.tail_run (takeM g t) _
theorem to_body (d f l a : Nat) (t : ATok) (ho : okP t = true) (hr : ∀ sp, ruleOf sp t = firstR [sp.char, sp.others] ∨ ruleOf sp t = firstR [sp.textEnd, sp.others]) :
    takeP 0 t (S0 (d + 4) f l a) = takeF okP plainRm 3 6 t (SB (d + 4) f l a none) := by
  have h0 : ruleOf (specs[0]) t = .meth 101 := by rcases hr specs[0] with e | e <;> (rw [e]; rfl)
  have h1 : ruleOf (specs[1]) t = .meth 104 := by rcases hr specs[1] with e | e <;> (rw [e]; rfl)
  have h2 : ruleOf (specs[2]) t = .meth 108 := by rcases hr specs[2] with e | e <;> (rw [e]; rfl)
  have h3 : ruleOf (specs[3]) t = .meth 114 := by rcases hr specs[3] with e | e <;> (rw [e]; rfl)
  have h4 : ruleOf (specs[4]) t = .meth 117 := by rcases hr specs[4] with e | e <;> (rw [e]; rfl)
  unfold takeP
  rw [takeF_at 7 0 t ho specs[0] rfl _ h0]
  refine (u0 (d + 4) f l a _ t).trans ?_
  rw [takeF_at 6 1 t ho specs[1] rfl _ h1]
  refine (u1 d f l a _ t).trans ?_
  rw [takeF_at 5 2 t ho specs[2] rfl _ h2]
  refine (u2 d f l a _ t).trans ?_
  rw [takeF_at 4 3 t ho specs[3] rfl _ h3]
  refine (u3 d f l a _ t).trans ?_
  rw [takeF_at 3 4 t ho specs[4] rfl _ h4]
  exact u4 d f l a _ t
def appO : Option ByteArray → ByteArray → ByteArray
  | none, s => s
  | some u, s => u ++ s
theorem in_char (n d f l a x y : Nat) (s : ByteArray) (hz : isNulS s = false) (o : Option ByteArray) (hs : ∀ u, o = some u → u.size + s.size ≤ 1048576) : takeF okP plainRm (n + 1) 6 ⟨x, y, .char s, []⟩ (SB d f l a o) = .ok () (SB d f l a (some (appO o s))) := by
  have h : ruleOf (specs[6]) ⟨x, y, .char s, []⟩ = .meth 120 := by cases hb : isBlankS s <;> simp only [ruleOf, hb, ↓reduceIte] <;> rfl
  rw [takeF_at n 6 _ rfl specs[6] rfl _ h]
  show charInBody ⟨x, y, .char s, []⟩ (SB d f l a o) = _
  unfold charInBody
  rw [show isNulS (ATok.chars ⟨x, y, .char s, []⟩) = false from hz]
  simp only [Bool.false_eq_true, ↓reduceIte]
  have e : reconstruct (SB d f l a o) = .ok () (SB d f l a o) := rfl
  rw [M.bind_run, e]
  refine (M.tail_run (insertChar ⟨x, y, .char s, []⟩) _).trans ?_
  cases o with
  | none =>
    show ((putChars (3, 0) s >>= fun _ => (Pure.pure () : M Unit)) (SB d f l a none)) = _
    rw [M.tail_run]
    rfl
  | some u =>
    have hu := hs u rfl
    have e2 : insertChar ⟨x, y, .char s, []⟩ (SB d f l a (some u)) = if u.size + s.size ≤ 1048576 then .ok () (SB d f l a (some (u ++ s))) else .stuck := by
      show ((putChars (3, 1) s >>= fun _ => (Pure.pure () : M Unit)) (SB d f l a (some u))) = _
      rw [M.tail_run]
      show (if u.size + s.size ≤ 1048576 then Res.ok () _ else .stuck) = _
      rfl
    rw [e2, if_pos hu]
    rfl
theorem in_end (n d f l a x y : Nat) (o : Option ByteArray) : takeF okP plainRm (n + 1) 6 ⟨x, y, .textEnd, []⟩ (SB d f l a o) = .ok () (SB d f l a o) := by
  have h : ruleOf (specs[6]) ⟨x, y, .textEnd, []⟩ = .nothing := rfl
  rw [takeF_at n 6 _ rfl specs[6] rfl _ h]
  rfl
theorem takeP_first (d f l a x y : Nat) (s : ByteArray) (hb : isBlankS s = false) (hz : isNulS s = false) : TakeM takeP ⟨x, y, .char s, []⟩ (S0 (d + 4) f l a) = .ok () (SB (d + 4) f l x (some s)) := by
  show takeP 0 ⟨x, y, .char s, []⟩ (S0 (d + 4) f l x) = _
  rw [to_body d f l x _ rfl (fun sp => .inl (noblank x y s hb sp))]
  exact in_char 2 (d + 4) f l x x y s hz none (fun u h => by cases h)
theorem takeP_more (d f l a x y : Nat) (s : ByteArray) (hz : isNulS s = false) (o : Option ByteArray) (hs : ∀ u, o = some u → u.size + s.size ≤ 1048576) : TakeM takeP ⟨x, y, .char s, []⟩ (SB d f l a o) = .ok () (SB d f l x (some (appO o s))) := by
  show takeP 6 ⟨x, y, .char s, []⟩ (SB d f l x o) = _
  exact in_char 7 d f l x x y s hz o hs
theorem takeP_end0 (d f l a x y : Nat) : TakeM takeP ⟨x, y, .textEnd, []⟩ (S0 (d + 4) f l a) = .ok () (SB (d + 4) f l x none) := by
  show takeP 0 ⟨x, y, .textEnd, []⟩ (S0 (d + 4) f l x) = _
  rw [to_body d f l x _ rfl (fun sp => .inr rfl)]
  exact in_end 2 (d + 4) f l x x y none
theorem takeP_end (d f l a x y : Nat) (o : Option ByteArray) : TakeM takeP ⟨x, y, .textEnd, []⟩ (SB d f l a o) = .ok () (SB d f l x o) := by
  show takeP 6 ⟨x, y, .textEnd, []⟩ (SB d f l x o) = _
  exact in_end 7 d f l x x y o
end Go.Proofs.YtlhhgenpcjjajaaGreatDoor
namespace Go.Proofs.YtlhhgenpcjjajaaGreatDoor
open Go.RowKit Go.Extern.Stop Go.Stop Go.Extern
theorem en_valueOf (t : Addr) (w : World) : (ReflectliteValue.unpack (.iface 85 (.pointer (some t)))).run Tryz.prog w
    = .ok (.agg #[.pointer (some ⟨7, 85, none⟩), .pointer (some ⟨w.heap.size, 0, none⟩), .int .u64 150]) (w.alloc (.cells #[.pointer (some t)] 85)) := by kernel_rfl
theorem st_valueOf (t : Addr) (w : World) : (ReflectliteValue.unpack (.iface 80 (.pointer (some t)))).run Tryz.prog w
    = .ok (.agg #[.pointer (some ⟨7, 80, none⟩), .pointer (some ⟨w.heap.size, 0, none⟩), .int .u64 150]) (w.alloc (.cells #[.pointer (some t)] 80)) := by kernel_rfl
theorem en_type (a : Addr) (w : World) : (ReflectliteValue.methodAny (ReflectliteValue.valueError "reflectlite.Value.Type" 0) (fun t _ _ _ => ReflectliteType.toType t) #[.agg #[.pointer (some ⟨7, 85, none⟩), .pointer (some a), .int .u64 150]]).run Tryz.prog w
    = .ok (.iface 145 (.agg #[.pointer (some ⟨7, 85, none⟩)])) w := by kernel_rfl
theorem st_type (a : Addr) (w : World) : (ReflectliteValue.methodAny (ReflectliteValue.valueError "reflectlite.Value.Type" 0) (fun t _ _ _ => ReflectliteType.toType t) #[.agg #[.pointer (some ⟨7, 80, none⟩), .pointer (some a), .int .u64 150]]).run Tryz.prog w
    = .ok (.iface 145 (.agg #[.pointer (some ⟨7, 80, none⟩)])) w := by kernel_rfl
theorem rt_kind (h : Value) (w : World) : (Go.method 500 145 (.agg #[h]) "Kind").run Tryz.prog w = .ok (407, h) w := by kernel_rfl
theorem rt_elem (h : Value) (w : World) : (Go.method 500 145 (.agg #[h]) "Elem").run Tryz.prog w = .ok (428, .agg #[h]) w := by kernel_rfl
theorem rt_implements (h : Value) (w : World) : (Go.method 500 145 (.agg #[h]) "Implements").run Tryz.prog w = .ok (429, .agg #[h]) w := by kernel_rfl
theorem rt_assignable (h : Value) (w : World) : (Go.method 500 145 (.agg #[h]) "AssignableTo").run Tryz.prog w = .ok (426, .agg #[h]) w := by kernel_rfl
theorem rt_comparable (v : Value) (w : World) : (Go.method 500 145 v "Comparable").run Tryz.prog w = .ok (427, v) w := by kernel_rfl
theorem en_kindp (w : World) : ((ReflectliteType.abiMethod fun t => (fun a : Nat => Value.int IntKind.u8 (a : Int)) <$> Rtype.kind t) #[.pointer (some ⟨7, 85, none⟩)]).run Tryz.prog w = .ok (.int .u8 22) w := by kernel_rfl
theorem en_kind (w : World) : ((ReflectliteType.abiMethod fun t => (fun a : Nat => Value.int IntKind.u8 (a : Int)) <$> Rtype.kind t) #[.pointer (some ⟨7, 24, none⟩)]).run Tryz.prog w = .ok (.int .u8 2) w := by kernel_rfl
theorem st_kindp (w : World) : ((ReflectliteType.abiMethod fun t => (fun a : Nat => Value.int IntKind.u8 (a : Int)) <$> Rtype.kind t) #[.pointer (some ⟨7, 80, none⟩)]).run Tryz.prog w = .ok (.int .u8 22) w := by kernel_rfl
theorem st_kind (w : World) : ((ReflectliteType.abiMethod fun t => (fun a : Nat => Value.int IntKind.u8 (a : Int)) <$> Rtype.kind t) #[.pointer (some ⟨7, 78, none⟩)]).run Tryz.prog w = .ok (.int .u8 22) w := by kernel_rfl
theorem rlm (z : Sem Value) (f : TypeId → Addr → Nat → Nat → Sem Value) (v : Value) :
    ReflectliteValue.method z f #[v] = (do match ← ReflectliteValue.parts v with | none => z | some (t, a, fl) => f t a fl (fl % 32)) := rfl
theorem en_partsp (a : Addr) (w : World) : (ReflectliteValue.parts (.agg #[.pointer (some ⟨7, 85, none⟩), .pointer (some a), .int .u64 150])).run Tryz.prog w = .ok (some (85, a, 150)) w := by kernel_rfl
theorem st_partsp (a : Addr) (w : World) : (ReflectliteValue.parts (.agg #[.pointer (some ⟨7, 80, none⟩), .pointer (some a), .int .u64 150])).run Tryz.prog w = .ok (some (80, a, 150)) w := by kernel_rfl
theorem en_isNil (a p : Addr) (W : World) (ha : W.cell? a = some (.pointer (some p))) :
    (ReflectliteValue.method (ReflectliteValue.valueError "reflectlite.Value.IsNil" 0) ReflectliteValue.isNil #[.agg #[.pointer (some ⟨7, 85, none⟩), .pointer (some a), .int .u64 150]]).run Tryz.prog W = .ok (.bool false) W := by
  rw [rlm]
  simp only [Sem.run_bind, en_partsp, Result.andThen]
  simp [ReflectliteValue.isNil, loadVar, isAgg, underlying, Tryz.underlying85, ha, Result.andThen]
theorem st_isNil (a p : Addr) (W : World) (ha : W.cell? a = some (.pointer (some p))) :
    (ReflectliteValue.method (ReflectliteValue.valueError "reflectlite.Value.IsNil" 0) ReflectliteValue.isNil #[.agg #[.pointer (some ⟨7, 80, none⟩), .pointer (some a), .int .u64 150]]).run Tryz.prog W = .ok (.bool false) W := by
  rw [rlm]
  simp only [Sem.run_bind, st_partsp, Result.andThen]
  simp [ReflectliteValue.isNil, loadVar, isAgg, underlying, Tryz.underlying80, ha, Result.andThen]
theorem en_elem (w : World) : (ReflectliteType.method ReflectliteType.elem #[.agg #[.pointer (some ⟨7, 85, none⟩)]]).run Tryz.prog w = .ok (.iface 145 (.agg #[.pointer (some ⟨7, 24, none⟩)])) w := by kernel_rfl
theorem st_elem (w : World) : (ReflectliteType.method ReflectliteType.elem #[.agg #[.pointer (some ⟨7, 80, none⟩)]]).run Tryz.prog w = .ok (.iface 145 (.agg #[.pointer (some ⟨7, 78, none⟩)])) w := by kernel_rfl
theorem en_implements (w : World) : (ReflectliteType.relation "Implements" ReflectliteType.implements_ #[.agg #[.pointer (some ⟨7, 24, none⟩)], .iface 145 (.agg #[.pointer (some ⟨7, 59, none⟩)])]).run Tryz.prog w = .ok (.bool true) w := by kernel_rfl
theorem st_implements (w : World) : (ReflectliteType.relation "Implements" ReflectliteType.implements_ #[.agg #[.pointer (some ⟨7, 78, none⟩)], .iface 145 (.agg #[.pointer (some ⟨7, 59, none⟩)])]).run Tryz.prog w = .ok (.bool true) w := by kernel_rfl
theorem en_typeOf (v : Value) (w : World) : (ReflectliteType.typeOf #[.iface 24 v]).run Tryz.prog w = .ok (.iface 145 (.agg #[.pointer (some ⟨7, 24, none⟩)])) w := by kernel_rfl
theorem en_assignable (w : World) : (ReflectliteType.relation "AssignableTo" ReflectliteType.assignableTo #[.agg #[.pointer (some ⟨7, 24, none⟩)], .iface 145 (.agg #[.pointer (some ⟨7, 24, none⟩)])]).run Tryz.prog w = .ok (.bool true) w := by kernel_rfl
theorem st_assignable (w : World) : (ReflectliteType.relation "AssignableTo" ReflectliteType.assignableTo #[.agg #[.pointer (some ⟨7, 24, none⟩)], .iface 145 (.agg #[.pointer (some ⟨7, 78, none⟩)])]).run Tryz.prog w = .ok (.bool false) w := by kernel_rfl
theorem en_valueOfE (n : Int) (w : World) : (ReflectliteValue.unpack (.iface 24 (.int .i64 n))).run Tryz.prog w
    = .ok (.agg #[.pointer (some ⟨7, 24, none⟩), .pointer (some ⟨w.heap.size, 0, none⟩), .int .u64 130]) (w.alloc (.cells #[.int .i64 n] 24)) := by kernel_rfl
theorem en_elemOf (w : World) : (Rtype.elem? 85).run Tryz.prog w = .ok (some 24) w := by kernel_rfl
theorem en_mk (p : Addr) (w : World) : (ReflectliteValue.mk 24 p ReflectliteValue.flagAddr).run Tryz.prog w = .ok (.agg #[.pointer (some ⟨7, 24, none⟩), .pointer (some p), .int .u64 386]) w := by kernel_rfl
theorem en_elemV (a p : Addr) (W : World) (ha : W.cell? a = some (.pointer (some p))) :
    (ReflectliteValue.method (ReflectliteValue.valueError "reflectlite.Value.Elem" 0) ReflectliteValue.elem #[.agg #[.pointer (some ⟨7, 85, none⟩), .pointer (some a), .int .u64 150]]).run Tryz.prog W
      = .ok (.agg #[.pointer (some ⟨7, 24, none⟩), .pointer (some p), .int .u64 386]) W := by
  rw [rlm]
  simp only [Sem.run_bind, en_partsp, Result.andThen]
  simp [ReflectliteValue.elem, loadVar, isAgg, underlying, Tryz.underlying85, ha, Result.andThen, en_elemOf, en_mk]
theorem rls (v x : Value) : ReflectliteValue.set #[v, x] = (do
    let (some (dst, a, fl), some (src, b, _)) := (← ReflectliteValue.parts v, ← ReflectliteValue.parts x)
      | unsupported (.noEntry "extern/(internal/reflectlite.Value).Set.zeroValue")
    if fl / ReflectliteValue.flagAddr % 2 == 0 then unsupported (.noEntry "extern/(internal/reflectlite.Value).Set.unaddressable")
    let val ← loadVar src b
    if ← Rtype.directlyAssignable dst src then storeVar dst a val
    else if ← Rtype.implements dst src then
      if (← Rtype.kind src) == 20 then
        match val with
        | .nilIface => unsupported (.noEntry "extern/reflectlite: a nil value of one interface type handed on as a value of another")
        | _ => storeVar dst a val
      else storeVar dst a (.iface src val)
    else panicString ("reflectlite.Set: value of type " ++ (← Rtype.spelt src) ++ " is not assignable to type " ++ (← Rtype.spelt dst))
    pure (.tuple #[])) := rfl
theorem en_partsA (a : Addr) (w : World) : (ReflectliteValue.parts (.agg #[.pointer (some ⟨7, 24, none⟩), .pointer (some a), .int .u64 386])).run Tryz.prog w = .ok (some (24, a, 386)) w := by kernel_rfl
theorem en_parts (a : Addr) (w : World) : (ReflectliteValue.parts (.agg #[.pointer (some ⟨7, 24, none⟩), .pointer (some a), .int .u64 130])).run Tryz.prog w = .ok (some (24, a, 130)) w := by kernel_rfl
theorem en_direct (w : World) : (Rtype.directlyAssignable 24 24).run Tryz.prog w = .ok true w := by kernel_rfl
theorem en_set (ta b : Addr) (n : Int) (old : Value) (W : World) (hb : W.cell? b = some (.int .i64 n)) (ht : W.cell? ta = some old) (hf : W.frozen? ta = false) :
    (ReflectliteValue.set #[.agg #[.pointer (some ⟨7, 24, none⟩), .pointer (some ta), .int .u64 386], .agg #[.pointer (some ⟨7, 24, none⟩), .pointer (some b), .int .u64 130]]).run Tryz.prog W
      = .ok (.tuple #[]) (W.setCell ta (.int .i64 n)) := by
  rw [rls]
  simp only [Sem.run_bind, en_partsA, en_parts, Result.andThen]
  simp [ReflectliteValue.flagAddr, loadVar, isAgg, underlying, Tryz.underlying24, hb, Result.andThen, en_direct, storeVar, Value.cells, storeCells, Addr.add]
  rw [run_store Tryz.prog W ta _ _ (by rfl)]
  simp [ht, hf]
end Go.Proofs.YtlhhgenpcjjajaaGreatDoor
namespace Go.Proofs.YtlhhgenpcjjajaaGreatDoor
open Go.RowKit Go.Extern.Stop Go.Stop Go.Extern
abbrev rv (T : Nat) (b : Nat) : Array Value := #[.pointer (some ⟨7, T, none⟩), .pointer (some ⟨b, 0, none⟩), .int .u64 150]
set_option maxHeartbeats 4000000 in
theorem as_hit (n : Int) (t : Addr) (old : Value) (w : World) (hg : w.cell? ⟨0, 0, none⟩ = some (.iface 145 (.agg #[.pointer (some ⟨7, 59, none⟩)]))) (ht0 : w.cell? t = some old) (hf0 : w.frozen? t = false) :
    Calls Tryz.prog 34 #[.iface 24 (.int .i64 n), .iface 85 (.pointer (some t))] w fun ev w' => ev = .returned (.bool true) ∧ w' = ((((w.alloc (.cells #[.pointer (some t)] 85)).alloc (.cells (rv 85 w.heap.size) 105)).alloc (.cells (rv 85 w.heap.size) 105)).alloc (.cells #[.int .i64 n] 24)).setCell t (.int .i64 n) := by
  have h6 := @run_callFunc_extern Tryz.prog 44 _ (fun args => ReflectliteValue.unpack (args.getD 0 (.tuple #[]))) Tryz.func44 (by kernel_rfl) (by kernel_rfl) (by kernel_rfl) (by kernel_rfl)
  have h7 := @run_callFunc_extern Tryz.prog 45 _ (ReflectliteValue.methodAny (ReflectliteValue.valueError "reflectlite.Value.Type" 0) (fun t _ _ _ => ReflectliteType.toType t)) Tryz.func45 (by kernel_rfl) (by kernel_rfl) (by kernel_rfl) (by kernel_rfl)
  have h8 := @run_callFunc_extern Tryz.prog 46 _ (ReflectliteValue.method (ReflectliteValue.valueError "reflectlite.Value.IsNil" 0) ReflectliteValue.isNil) Tryz.func46 (by kernel_rfl) (by kernel_rfl) (by kernel_rfl) (by kernel_rfl)
  have h27 := @run_callFunc_extern Tryz.prog 407 _ (ReflectliteType.abiMethod fun t => do pure (.int .u8 (← Rtype.kind t))) Tryz.func407 (by kernel_rfl) (by kernel_rfl) (by kernel_rfl) (by kernel_rfl)
  have h37 := @run_callFunc_extern Tryz.prog 428 _ (ReflectliteType.method ReflectliteType.elem) Tryz.func428 (by kernel_rfl) (by kernel_rfl) (by kernel_rfl) (by kernel_rfl)
  have h38 := @run_callFunc_extern Tryz.prog 429 _ (ReflectliteType.relation "Implements" ReflectliteType.implements_) Tryz.func429 (by kernel_rfl) (by kernel_rfl) (by kernel_rfl) (by kernel_rfl)
  have h10 := @run_callFunc_extern Tryz.prog 48 _ ReflectliteType.typeOf Tryz.func48 (by kernel_rfl) (by kernel_rfl) (by kernel_rfl) (by kernel_rfl)
  have h35 := @run_callFunc_extern Tryz.prog 426 _ (ReflectliteType.relation "AssignableTo" ReflectliteType.assignableTo) Tryz.func426 (by kernel_rfl) (by kernel_rfl) (by kernel_rfl) (by kernel_rfl)
  have h11 := @run_callFunc_extern Tryz.prog 64 _ (ReflectliteValue.method (ReflectliteValue.valueError "reflectlite.Value.Elem" 0) ReflectliteValue.elem) Tryz.func64 (by kernel_rfl) (by kernel_rfl) (by kernel_rfl) (by kernel_rfl)
  have h12 := @run_callFunc_extern Tryz.prog 65 _ ReflectliteValue.set Tryz.func65 (by kernel_rfl) (by kernel_rfl) (by kernel_rfl) (by kernel_rfl)
  have tO := en_typeOf
  have mA := rt_assignable
  have a25 := en_assignable
  have v25 := en_valueOfE
  have f6 := en_valueOf
  have f7 := en_type
  have mK := rt_kind
  have mE := rt_elem
  have mI := rt_implements
  have k27 := en_kindp
  have k25 := en_kind
  have e27 := en_elem
  have i25 := en_implements
  have n8 := en_isNil ⟨w.heap.size, 0, none⟩ t ((w.alloc (.cells #[.pointer (some t)] 85)).alloc (.cells (rv 85 w.heap.size) 105)) (by simp)
  have hlt : 0 < w.heap.size := by
    rcases Nat.eq_zero_or_pos w.heap.size with h0 | h
    · simp [World.cell?, h0] at hg
    · exact h
  have hg2 : ((w.alloc (.cells #[.pointer (some t)] 85)).alloc (.cells (rv 85 w.heap.size) 105)).cell? ⟨0, 0, none⟩ = some (.iface 145 (.agg #[.pointer (some ⟨7, 59, none⟩)])) := by
    rw [World.cell?_alloc_lt _ _ ⟨0, 0, none⟩ (by simp), World.cell?_alloc_lt _ _ ⟨0, 0, none⟩ hlt]; exact hg
  have htl : t.block < w.heap.size := by
    rcases Nat.lt_or_ge t.block w.heap.size with h | h
    · exact h
    · simp [World.cell?, Array.getElem?_eq_none h] at ht0
  have el := en_elemV ⟨w.heap.size, 0, none⟩ t (((w.alloc (.cells #[.pointer (some t)] 85)).alloc (.cells (rv 85 w.heap.size) 105)).alloc (.cells (rv 85 w.heap.size) 105)) (by rw [World.cell?_alloc_lt _ _ ⟨w.heap.size, 0, none⟩ (by simp; omega)]; simp)
  have st := en_set t ⟨w.heap.size + 1 + 1 + 1, 0, none⟩ n old ((((w.alloc (.cells #[.pointer (some t)] 85)).alloc (.cells (rv 85 w.heap.size) 105)).alloc (.cells (rv 85 w.heap.size) 105)).alloc (.cells #[.int .i64 n] 24))
    (by rw [World.cell?_alloc_at _ _ _ _ (by simp)]; rfl)
    (by rw [World.cell?_alloc_lt _ _ t (by simp; omega), World.cell?_alloc_lt _ _ t (by simp; omega), World.cell?_alloc_lt _ _ t (by simp; omega), World.cell?_alloc_lt _ _ t htl]; exact ht0)
    (by rw [World.frozen?_alloc_old _ _ t (by simp; omega), World.frozen?_alloc_old _ _ t (by simp; omega), World.frozen?_alloc_old _ _ t (by simp; omega), World.frozen?_alloc_old _ _ t (Nat.ne_of_lt htl)]; exact hf0)
  go_enter Tryz.func34, Tryz.ntmps34
  go_wp2
  refine wp_loop_rounds 1 ?_
  rw [rounds_succ]
  go_wp2
  go_ret
  exact ⟨rfl, rfl⟩
end Go.Proofs.YtlhhgenpcjjajaaGreatDoor
namespace Go.Proofs.YtlhhgenpcjjajaaGreatDoor
open Go.RowKit Go.Extern.Stop Go.Stop Go.Extern
theorem en_noAs (v : Value) (xT : TypeId) (w : World) : (Instr.typeAssert (.iface 24 v) xT 149 true).run Tryz.prog w = .ok (.tuple #[.nilIface, .bool false]) w := run_typeAssert_lacksB Tryz.underlying149 (by kernel_rfl) (by kernel_rfl) v xT w
theorem en_noIs (v : Value) (xT : TypeId) (w : World) : (Instr.typeAssert (.iface 24 v) xT 156 true).run Tryz.prog w = .ok (.tuple #[.nilIface, .bool false]) w := run_typeAssert_lacksB Tryz.underlying156 (by kernel_rfl) (by kernel_rfl) v xT w
theorem en_noUnwrap (v : Value) (xT : TypeId) (w : World) : (Instr.typeAssert (.iface 24 v) xT 152 true).run Tryz.prog w = .ok (.tuple #[.nilIface, .bool false]) w := run_typeAssert_lacksB Tryz.underlying152 (by kernel_rfl) (by kernel_rfl) v xT w
theorem en_noUnwraps (v : Value) (xT : TypeId) (w : World) : (Instr.typeAssert (.iface 24 v) xT 153 true).run Tryz.prog w = .ok (.tuple #[.nilIface, .bool false]) w := run_typeAssert_lacksB Tryz.underlying153 (by kernel_rfl) (by kernel_rfl) v xT w
set_option maxHeartbeats 4000000 in
theorem as_miss (n : Int) (t : Addr) (w : World) (hg : w.cell? ⟨0, 0, none⟩ = some (.iface 145 (.agg #[.pointer (some ⟨7, 59, none⟩)]))) :
    Calls Tryz.prog 34 #[.iface 24 (.int .i64 n), .iface 80 (.pointer (some t))] w fun ev w' => ev = .returned (.bool false) ∧ w' = (((w.alloc (.cells #[.pointer (some t)] 80)).alloc (.cells (rv 80 w.heap.size) 105)).alloc (.cells (rv 80 w.heap.size) 105)) := by
  have h6 := @run_callFunc_extern Tryz.prog 44 _ (fun args => ReflectliteValue.unpack (args.getD 0 (.tuple #[]))) Tryz.func44 (by kernel_rfl) (by kernel_rfl) (by kernel_rfl) (by kernel_rfl)
  have h7 := @run_callFunc_extern Tryz.prog 45 _ (ReflectliteValue.methodAny (ReflectliteValue.valueError "reflectlite.Value.Type" 0) (fun t _ _ _ => ReflectliteType.toType t)) Tryz.func45 (by kernel_rfl) (by kernel_rfl) (by kernel_rfl) (by kernel_rfl)
  have h8 := @run_callFunc_extern Tryz.prog 46 _ (ReflectliteValue.method (ReflectliteValue.valueError "reflectlite.Value.IsNil" 0) ReflectliteValue.isNil) Tryz.func46 (by kernel_rfl) (by kernel_rfl) (by kernel_rfl) (by kernel_rfl)
  have h27 := @run_callFunc_extern Tryz.prog 407 _ (ReflectliteType.abiMethod fun t => do pure (.int .u8 (← Rtype.kind t))) Tryz.func407 (by kernel_rfl) (by kernel_rfl) (by kernel_rfl) (by kernel_rfl)
  have h37 := @run_callFunc_extern Tryz.prog 428 _ (ReflectliteType.method ReflectliteType.elem) Tryz.func428 (by kernel_rfl) (by kernel_rfl) (by kernel_rfl) (by kernel_rfl)
  have h38 := @run_callFunc_extern Tryz.prog 429 _ (ReflectliteType.relation "Implements" ReflectliteType.implements_) Tryz.func429 (by kernel_rfl) (by kernel_rfl) (by kernel_rfl) (by kernel_rfl)
  have h10 := @run_callFunc_extern Tryz.prog 48 _ ReflectliteType.typeOf Tryz.func48 (by kernel_rfl) (by kernel_rfl) (by kernel_rfl) (by kernel_rfl)
  have h35 := @run_callFunc_extern Tryz.prog 426 _ (ReflectliteType.relation "AssignableTo" ReflectliteType.assignableTo) Tryz.func426 (by kernel_rfl) (by kernel_rfl) (by kernel_rfl) (by kernel_rfl)
  have tO := en_typeOf
  have mA := rt_assignable
  have a25 := st_assignable
  have f6 := st_valueOf
  have f7 := st_type
  have mK := rt_kind
  have mE := rt_elem
  have mI := rt_implements
  have k27 := st_kindp
  have k25 := st_kind
  have e27 := st_elem
  have i25 := st_implements
  have x1 := en_noAs
  have x2 := en_noUnwrap
  have x3 := en_noUnwraps
  have n8 := st_isNil ⟨w.heap.size, 0, none⟩ t ((w.alloc (.cells #[.pointer (some t)] 80)).alloc (.cells (rv 80 w.heap.size) 105)) (by simp)
  have hlt : 0 < w.heap.size := by
    rcases Nat.eq_zero_or_pos w.heap.size with h0 | h
    · simp [World.cell?, h0] at hg
    · exact h
  have hg2 : ((w.alloc (.cells #[.pointer (some t)] 80)).alloc (.cells (rv 80 w.heap.size) 105)).cell? ⟨0, 0, none⟩ = some (.iface 145 (.agg #[.pointer (some ⟨7, 59, none⟩)])) := by
    rw [World.cell?_alloc_lt _ _ ⟨0, 0, none⟩ (by simp), World.cell?_alloc_lt _ _ ⟨0, 0, none⟩ hlt]; exact hg
  go_enter Tryz.func34, Tryz.ntmps34
  go_wp2
  refine wp_loop_rounds 1 ?_
  rw [rounds_succ]
  go_wp2
  go_ret
  exact ⟨rfl, rfl⟩
end Go.Proofs.YtlhhgenpcjjajaaGreatDoor
namespace Go.Proofs.YtlhhgenpcjjajaaGreatDoor
open Go.RowKit Go.Extern.Stop Go.Stop Go.Extern
theorem run_equalIn_iface_int {P : Program} (w : World) (d : Nat) {ti tn : TypeId} {ms : Array (String × TypeId)} {i : TypeInfo} {k : IntKind} (a b : Int)
    (hi : P.underlying ti = some (.interface ms)) (hn : P.underlying tn = some (.int k)) (hinfo : P.info? tn = some i) (hcomp : i.comparable = true) :
    (Op.equalIn (d + 2) ti (.iface tn (.int k a)) (.iface tn (.int k b))).run P w = .ok (a == b) w := by
  simp [Op.equalIn, run_underlying hi, run_underlying hn, typeInfo, hinfo, hcomp]
theorem run_eql_iface_int {P : Program} (w : World) {ti tn : TypeId} {ms : Array (String × TypeId)} {i : TypeInfo} {k : IntKind} (a b : Int)
    (hi : P.underlying ti = some (.interface ms)) (hn : P.underlying tn = some (.int k)) (hinfo : P.info? tn = some i) (hcomp : i.comparable = true) :
    (binOp .eql ti (.iface tn (.int k a)) (.iface tn (.int k b))).run P w = .ok (.bool (a == b)) w := by
  simp only [binOp]
  simp [Op.equal, Op.maxDepth, run_equalIn_iface_int w 9998 a b hi hn hinfo hcomp]
def cmpEntry : Array Value → Sem Value := Extern.ReflectliteType.method fun t => do Rtype.noPackHeld "Comparable" t; pure (.bool (← typeInfo t).comparable)
theorem en_isComparable (w : World) : (cmpEntry #[.agg #[.pointer (some ⟨7, 24, none⟩)]]).run Tryz.prog w = .ok (.bool true) w := by kernel_rfl
theorem en_comp : (Tryz.prog.info? 24).map (·.comparable) = some true := by kernel_rfl
set_option maxHeartbeats 1000000 in
theorem is_same (n : Int) (w : World) :
    Calls Tryz.prog 35 #[.iface 24 (.int .i64 n), .iface 24 (.int .i64 n)] w fun e w' => e = .returned (.bool true) ∧ w' = w := by
  obtain ⟨i, hi, hcmp⟩ := Option.map_eq_some_iff.1 en_comp
  have h8 := @run_callFunc_extern Tryz.prog 48 _ Extern.ReflectliteType.typeOf Tryz.func48 (by kernel_rfl) (by kernel_rfl) (by kernel_rfl) (by kernel_rfl)
  have h32 := @run_callFunc_extern Tryz.prog 427 _ cmpEntry Tryz.func427 (by kernel_rfl) (by kernel_rfl) (by kernel_rfl) (by kernel_rfl)
  have tT := en_typeOf
  have cT := en_isComparable
  have mR := rt_comparable
  have heq : ∀ w : World, (binOp .eql 59 (.iface 24 (.int .i64 n)) (.iface 24 (.int .i64 n))).run Tryz.prog w = .ok (.bool true) w := fun w => by
    rw [run_eql_iface_int w n n Tryz.underlying59 Tryz.underlying24 hi hcmp]; simp
  go_enter Tryz.func35, Tryz.ntmps35
  go_wp2
  refine wp_loop_rounds 1 ?_
  rw [rounds_succ]
  go_wp2
  go_ret
  exact ⟨rfl, rfl⟩
end Go.Proofs.YtlhhgenpcjjajaaGreatDoor
namespace Go.Proofs.YtlhhgenpcjjajaaGreatDoor
open Go.RowKit Go.Extern.Stop Go.Stop Go.Extern
def errorType (w : World) : Prop := w.cell? ⟨0, 0, none⟩ = some (.iface 145 (.agg #[.pointer (some ⟨7, 59, none⟩)]))
theorem as_hitK (n : Int) (t : Nat) (old : Value) (w : World) (hg : errorType w) (ht : w.heap[t]? = some (.cells #[old] 24 (0, 0))) :
    Calls Tryz.prog 34 #[.iface 24 (.int .i64 n), .iface 85 (.pointer (some ⟨t, 0, none⟩))] w fun ev w' => ev = .returned (.bool true) ∧ w'.heap[t]? = some (.cells #[.int .i64 n] 24 (0, 0)) ∧ Kept [t] w w' := by
  refine (as_hit n ⟨t, 0, none⟩ old w hg (cell_of_one ht) (free_of_one ht)).mono ?_
  rintro e w' ⟨rfl, rfl⟩
  refine ⟨rfl, one_setCell (v := old) ?_, ?_⟩
  · have hl := lt_of_block ht
    rw [Below.heap_alloc _ _ _ (by simp; omega), Below.heap_alloc _ _ _ (by simp; omega), Below.heap_alloc _ _ _ (by simp; omega), Below.heap_alloc _ _ _ hl]
    exact ht
  · exact Kept.setCell ((((Kept.refl _ _).alloc _).alloc _).alloc _ |>.alloc _) (.inl (by simp)) _
theorem as_missK (n : Int) (t : Addr) (w : World) (hg : errorType w) :
    Calls Tryz.prog 34 #[.iface 24 (.int .i64 n), .iface 80 (.pointer (some t))] w fun ev w' => ev = .returned (.bool false) ∧ Kept [] w w' := by
  refine (as_miss n t w hg).mono ?_
  rintro e w' ⟨rfl, rfl⟩
  exact ⟨rfl, (((Kept.refl _ _).alloc _).alloc _).alloc _⟩
theorem catch_idle (p q : Addr) (w : World) :
    CallsD Tryz.prog 66 #[.pointer (some p), .pointer (some q)] .returning w fun e u' w' => e = .returned (.tuple #[]) ∧ u' = .returning ∧ w' = w := by
  refine callsD_of_wpS Tryz.func66 rfl fun c₀ cs hu => ?_
  apply wpS_seq
  apply wpS_region
  simp [wpOpsS, go_sem, recoverD, hu, Tryz.ntmps66, Exit.thenS]
  refine wpS_cond (t := false) (by simp [Act.eval, Array.replicate]) ?_
  simp only [Bool.false_eq_true, if_false]
  refine wpS_of_wp (wp_skip ?_)
  cases c₀
  simp_all [bodyPostS, results, Tryz.results66]
theorem errorType_alloc {w : World} (h : errorType w) (o : Obj) : errorType (w.alloc o) := by
  have : 0 < w.heap.size := by
    rcases Nat.eq_zero_or_pos w.heap.size with h0 | h'
    · simp [errorType, World.cell?, h0] at h
    · exact h'
  show (w.alloc o).cell? _ = _
  rw [World.cell?_alloc_lt _ _ _ this]; exact h
set_option maxHeartbeats 1000000 in
theorem find_errno (n : Int) (w : World) (hg : errorType w) :
    Calls Tryz.prog 50 #[.iface 24 (.int .i64 n)] w fun e w' => e = .returned (.tuple #[.int .i64 n, .bool true]) ∧ Kept [] w w' := by
  have hmf : ∀ (fn : Fn) (first cap : Array Value) (w : World), (Instr.makeFunc fn first cap).run Tryz.prog w = .ok (.func fn first cap) w := fun _ _ _ _ => rfl
  have hg2 := errorType_alloc (errorType_alloc hg (.cells #[.int .i64 0] 24)) (.cells #[.bool false] 4)
  go_enter_defers Tryz.func50, Tryz.ntmps50
  go_wp2_with fail
  refine (as_hitK n w.heap.size _ _ hg2 (by rw [Below.heap_alloc _ _ _ (by simp)]; exact heap_alloc_at _ _)).mono ?_
  rintro e w1 ⟨rfl, h1, hk⟩
  have h2 : w1.heap[w.heap.size + 1]? = some (.cells #[.bool false] 4 (0, 0)) := by
    refine hk.at ?_ (by simp)
    have := heap_alloc_at (w.alloc (.cells #[.int .i64 0] 24)) (.cells #[.bool false] 4)
    simpa using this
  have c1 := cell_of_one h1
  have c2 := cell_of_one h2
  have f1 := free_of_one h1
  have f2 := free_of_one h2
  have K1 : Kept [] w w1 := ((((Kept.refl _ _).alloc _).alloc _).trans (S := [w.heap.size]) hk).mono (by intro k hm hl; simp at hm; omega)
  clear hk
  have z1 := lt_of_block h1
  have z2 := lt_of_block h2
  have H1 : Hid _ := h1
  have H2 : Hid _ := h2
  clear h1 h2 hg hg2
  go_wp2_with fail
  go_region
  all_goals go_wp2
  refine leaves_cons (f := 66) (args := #[.pointer (some ⟨w.heap.size, 0, none⟩), .pointer (some ⟨w.heap.size + 1, 0, none⟩)]) (by simp) (by simp [go_sem]) ?_
  refine (catch_idle ⟨w.heap.size, 0, none⟩ ⟨w.heap.size + 1, 0, none⟩ _).mono ?_
  rintro e u' w'' ⟨rfl, rfl, rfl⟩
  have K2 : Kept [] w (((w1.setCell ⟨w.heap.size + 1, 0, none⟩ (.bool true)).setCell ⟨w.heap.size, 0, none⟩ (.int .i64 n)).setCell ⟨w.heap.size + 1, 0, none⟩ (.bool true)).drew :=
    (((K1.setCell (.inr (by simp)) _).setCell (.inr (by simp)) _).setCell (.inr (by simp)) _).drew
  simp [Go.Leaves, settle, results, Tryz.results50, go_sem, c1, c2]
  exact K2
end Go.Proofs.YtlhhgenpcjjajaaGreatDoor
namespace Go.Proofs.YtlhhgenpcjjajaaGreatDoor
open Go.RowKit
section
variable {P : Program} {ops : Array Oper} {Q : Exit → Act → World → Prop} {md : Region.Mode}
theorem take_run {i : Nat} {oi : Oper} {fuel : Nat} {listed : Array Bool} {a : Act} {w : World} (d : Option Tmp) (v : Value) (hi : ops[i]? = some oi) (hd : oi.dst = d)
    (hs : Region.noSelect ops = true) (hf : Region.free md ops listed i = true) (hr : (Region.ready md ops listed).contains i = true)
    (hQ : ∀ c a w, Q (.panic c) (a.put d v) w → Q (.panic c) a w) (hw : Region.wanted oi (yielded ops a.tmps) = true) (hv : ∀ w, (execOp a.eval oi).run P w = .ok (.value v) w)
    (h : wpAny P md ops Q fuel (listed.setIfInBounds i true) (a.put d v) w) : wpAny P md ops Q (fuel + 1) listed a w := by
  subst hd
  exact wpAny_take hi hs hf hr hQ (Or.inl ⟨hw, hv⟩) h
theorem take_skip {i : Nat} {oi : Oper} {fuel : Nat} {listed : Array Bool} {a : Act} {w : World} (d : Option Tmp) (hi : ops[i]? = some oi) (hd : oi.dst = d)
    (hs : Region.noSelect ops = true) (hf : Region.free md ops listed i = true) (hr : (Region.ready md ops listed).contains i = true)
    (hQ : ∀ c a w, Q (.panic c) (a.put d undef) w → Q (.panic c) a w) (hw : Region.wanted oi (yielded ops a.tmps) = false)
    (h : wpAny P md ops Q fuel (listed.setIfInBounds i true) (a.put d undef) w) : wpAny P md ops Q (fuel + 1) listed a w := by
  subst hd
  exact wpAny_take hi hs hf hr hQ (Or.inr ⟨hw, rfl⟩) h
end
end Go.Proofs.YtlhhgenpcjjajaaGreatDoor
