import Derived.Test.YtlhhgenpcjjajaaGreatDoorRelG
import Derived.Test.YtlhhgenpcjjajaaGreatDoorOfB
import Derived.Test.YtlhhgenpcjjajaaGreatDoorDoA
set_option linter.unusedSimpArgs false
set_option linter.unusedVariables false
namespace Go.Proofs.YtlhhgenpcjjajaaGreatDoor
open Go.RowKit
def closeM (p b : ByteArray → Bool) : M Bool := fun σ => if σ.inScope p b then .ok true (σ.upTo p) else .ok false σ
def closePM : M Unit := do
  let _ ← closeM (hasS [(⟨#[112]⟩ : ByteArray)]) buttonB
  return ()
def popIfM (p : ByteArray → Bool) : M Unit := upd fun σ => σ.popIf p
def clearToM (p : ByteArray → Bool) : M Unit := upd fun σ => σ.clearTo p
def setMode (m : Nat) : M Unit := upd fun σ => { σ with mode := m }
def oErase (x : Option Nat) : M Unit := fun σ => if σ.isEl x then .ok () { σ with opn := σ.opn.erase x } else .stuck
def oRepl (x y : Option Nat) : M Unit := fun σ => if σ.isEl x && σ.isElS y then .ok () { σ with opn := repl σ.opn x y } else .stuck
def oPutBehind (x y : Option Nat) : M Unit := fun σ => if σ.isEl x && σ.isElS y && decide (σ.opn.length < 4096) then .ok () { σ with opn := putBehind σ.opn x y } else .stuck
def oPopTo (x : Option Nat) : M Unit := fun σ => if σ.isEl x then .ok () { σ with opn := popTo σ.opn x } else .stuck
def aErase (x : Option Nat) : M Unit := fun σ => if σ.isEl x then .ok () { σ with act := σ.act.erase x } else .stuck
def aRepl (x y : Option Nat) : M Unit := fun σ => if σ.isEl x && σ.isEl y then .ok () { σ with act := repl σ.act x y } else .stuck
def aPutBehind (x y : Option Nat) : M Unit := fun σ => if σ.isEl x && σ.isEl y && decide (σ.act.length < 4096) then .ok () { σ with act := putBehind σ.act x y } else .stuck
def aPopTo (x : Option Nat) : M Unit := fun σ => if σ.isEl x then .ok () { σ with act := popTo σ.act x } else .stuck
def hasAttr (ats : List (ByteArray × ByteArray)) (s : ByteArray) : Bool := ats.any fun a => eqS a.1 s
def giveL (i : Nat) : List (ByteArray × ByteArray) → M Unit
  | [] => pure ()
  | a :: r => fun σ => match σ.el? i with
    | none => .stuck
    | some e => if hasAttr e.attrs a.1 then giveL i r σ else if σ.atl ≤ e.attrs.length then .stop 7 σ.at' else giveL i r (σ.setEl i { e with attrs := e.attrs ++ [a] })
def giveM (i : Nat) (t : ATok) : M Unit := fun σ => if σ.fresh && givable (σ.nm i) then giveL i t.tagAttrs σ else .stuck
def anotherM (i : Nat) : M Nat := fun σ => match σ.el? i with
  | some e => if givable e.name then .stuck else .ok σ.nodes.length (σ.add (.el { name := e.name, attrs := e.attrs, par := none, kids := [] }))
  | none => .stuck
def Ab.isMO (σ : Ab) (x : Option Nat) : Bool := decide (x = none) || decide (x ∈ σ.opn)
def Ab.recL (σ : Ab) : List (Option Nat) → Nat
  | [] => 0
  | x :: r => if σ.isMO x then r.length + 1 else σ.recL r
def Ab.recN (σ : Ab) : Nat := σ.recL σ.act.reverse
def actAt (n : Nat) : M Nat := fun σ => match getAt σ.act (n : Int) with
  | some i => .ok i σ
  | none => .stuck
def aReplLast (old : Nat) : M Unit := fun σ => aRepl (some old) σ.last σ
def recM : Nat → Nat → M Unit
  | 0, _ => pure ()
  | k + 1, n => do
    let old ← actAt n
    let j ← anotherM old
    insertM j
    aReplLast old
    recM k (n + 1)
def reconstruct : M Unit := fun σ => recM (σ.act.length - σ.recN) σ.recN σ
def Ab.lastActL (σ : Ab) (s : ByteArray) : List (Option Nat) → Option Nat
  | [] => none
  | none :: _ => none
  | some i :: r => if eqS (σ.nm i) s then some i else σ.lastActL s r
def Ab.lastActive (σ : Ab) (s : ByteArray) : Option Nat := σ.lastActL s σ.act.reverse
def likeEl (a b : AEl) : Bool := eqS a.name b.name && (a.attrs.length == b.attrs.length) && a.attrs.all fun x => b.attrs.any fun y => eqS x.1 y.1 && eqS x.2 y.2
def Ab.like (σ : Ab) (i j : Nat) : Bool := match σ.el? i, σ.el? j with
  | some a, some b => likeEl a b
  | _, _ => false
def Ab.likesL (σ : Ab) (j : Nat) : List (Option Nat) → Option Nat × Nat → Option Nat × Nat
  | [], c => c
  | none :: _, c => c
  | some i :: r, c => if σ.like i j then σ.likesL j r (some i, c.2 + 1) else σ.likesL j r c
def addEntry (x : Option Nat) : M Unit := fun σ => if σ.frm ≤ σ.act.length then .stop 6 σ.at' else if σ.isEl x then .ok () { σ with act := σ.act ++ [x] } else .stuck
def addM (i : Nat) : M Unit := fun σ =>
  let c := σ.likesL i σ.act.reverse (none, 0)
  if 3 ≤ c.2 then (do
    aErase c.1
    addEntry (some i)
    return () : M Unit) σ else (do
    addEntry (some i)
    return () : M Unit) σ
def unmark : M Unit := do
  aPopTo none
  return ()
def lastM : M Nat := fun σ => match σ.last with
  | some i => .ok i σ
  | none => .stuck
def startOther (t : ATok) : M Unit := do
  reconstruct
  insertTag t
  return ()
def startVoid (t : ATok) : M Unit := do
  reconstruct
  insertVoid t
  return ()
def startFormatting (t : ATok) : M Unit := do
  startOther t
  let i ← lastM
  addM i
  return ()
def endNamed (s : ByteArray) : M Unit := do
  let _ ← closeM (hasS [s]) pSpecial
  return ()
def Ab.blockL (σ : Ab) (f : Nat) : List (Option Nat) → Option Nat → Option Nat
  | [], b => b
  | x :: r, b => if x = some f then b else σ.blockL f r (if pSpecial (σ.nmO x) then x else b)
def Ab.blockBehind (σ : Ab) (f : Nat) : Option Nat := σ.blockL f σ.opn.reverse none
def takeOut (j : Nat) : M Unit := fun σ => match σ.el? j with
  | none => .stuck
  | some ej => match ej.par with
    | none => .ok () σ
    | some p => match σ.el? p with
      | none => .stuck
      | some ep => if j ≠ p ∧ 0 ≤ posN ep.kids (Nd.isEl j) ∧ (posN ep.kids (Nd.isEl j)).toNat < ep.kids.length then .ok () ((σ.setEl p { ep with kids := ep.kids.eraseIdx (posN ep.kids (Nd.isEl j)).toNat }).setEl j { ej with par := none }) else .stuck
def putK (pl : Nat × Nat) (k : Nd) : M Unit := match k with
  | .el j => putEl pl j
  | k => putNd pl k
def handL (dst : Nat) : List Nd → M Unit
  | [] => pure ()
  | k :: r => do
    let pl ← endOf dst
    putK pl k
    handL dst r
def handOver (b dst : Nat) : M Unit := fun σ => match σ.el? b with
  | none => .stuck
  | some eb => if b = dst then .stuck else (handL dst eb.kids >>= fun _ σ' => match σ'.el? b with
    | some eb' => .ok () (σ'.setEl b { eb' with kids := [] })
    | none => .stuck) σ
def opnAt (n : Nat) : M Nat := fun σ => match getAt σ.opn (n : Int) with
  | some i => .ok i σ
  | none => .stuck
def remakeL (f blk : Nat) : Nat → Nat → Nat → Nat → M (Nat × Nat)
  | 0, _, last, mark => pure (last, mark)
  | n + 1, c, last, mark => do
    let e ← opnAt n
    if e = f then pure (last, mark) else do
      (if 3 < c + 1 then aErase (some e) else pure ())
      fun σ => if some e ∉ σ.act then (do
        oErase (some e)
        remakeL f blk n (c + 1) last mark : M (Nat × Nat)) σ else (do
        let like ← anotherM e
        oRepl (some e) (some like)
        aRepl (some e) (some like)
        takeOut last
        let pl ← endOf like
        putEl pl last
        remakeL f blk n (c + 1) like (if last = blk then like else mark) : M (Nat × Nat)) σ
def remake (f blk : Nat) : M (Nat × Nat) := fun σ => remakeL f blk (posOf σ.opn (some blk)).toNat 0 blk f σ
def ahead (f : Nat) : M Nat := fun σ => match getAt σ.opn (posOf σ.opn (some f) - 1) with
  | some i => .ok i σ
  | none => .stuck
def moveOut (f blk : Nat) : M Unit := do
  let (last, mark) ← remake f blk
  takeOut last
  let a ← ahead f
  let pl ← placeFor a
  putEl pl last
  let like ← anotherM f
  handOver blk like
  let pl ← endOf blk
  putEl pl like
  aPutBehind (some mark) (some like)
  aErase (some f)
  oErase (some f)
  oPutBehind (some blk) (some like)
  return ()
def adoptOnce (s : ByteArray) : M Bool := fun σ => match σ.lastActive s with
  | none => (do endNamed s; return false : M Bool) σ
  | some f => if some f ∉ σ.opn then (do aErase (some f); return false : M Bool) σ
    else if !σ.isInScope f then .ok false σ
    else match σ.blockBehind f with
      | none => (do oPopTo (some f); aErase (some f); return false : M Bool) σ
      | some b => (do moveOut f b; return true : M Bool) σ
def adoptL (s : ByteArray) : Nat → M Unit
  | 0 => pure ()
  | k + 1 => do
    let b ← adoptOnce s
    if b then adoptL s k else pure ()
def adopt (s : ByteArray) : M Unit := fun σ => match σ.last with
  | none => .stuck
  | some i => if eqS (σ.nm i) s && !decide (some i ∈ σ.act) then (do let _ ← pop'; return () : M Unit) σ else adoptL s 8 σ
end Go.Proofs.YtlhhgenpcjjajaaGreatDoor
namespace Go.Proofs.YtlhhgenpcjjajaaGreatDoor
open Go.RowKit
section
variable (rec : Nat → ATok → M Unit) (t : ATok)
def takeM : M Unit := fun σ => rec σ.mode t σ
def putNew (pl : Nat × Nat) (nd : ANd) (k : Nat → Nd) : M Unit := fun σ => putNd pl (k σ.nodes.length) (σ.add nd)
def docEnd : M (Nat × Nat) := endOf 0
def startDocument : M Unit := match t.k with
  | .doctype n q => do
    let pl ← docEnd
    putNew pl (.dt n) .dt
    upd fun σ => { σ with quirks := q || !eqS n (⟨#[104, 116, 109, 108]⟩ : ByteArray) }
    setMode 1
    return ()
  | _ => do
    setMode 1
    return ()
def startWithoutDoctype : M Unit := do
  upd fun σ => { σ with quirks := true }
  setMode 1
  takeM rec t
  return ()
def newElA (name : ByteArray) (own : Bool) (ats : List (ByteArray × ByteArray)) : M Nat := fun σ => if own then (if σ.fresh then .ok σ.nodes.length (σ.addF (.el { name := name, attrs := ats, par := none, kids := [] }) false) else .stuck) else .ok σ.nodes.length (σ.add (.el { name := name, attrs := [], par := none, kids := [] }))
def openHTML (own : Bool) (ats : List (ByteArray × ByteArray)) : M Unit := do
  let e ← newElA (⟨#[104, 116, 109, 108]⟩ : ByteArray) own ats
  let pl ← docEnd
  putEl pl e
  pushM (some e)
  setMode 2
  return ()
def startHTML : M Unit := do
  openHTML t.isTag t.tagAttrs
  return ()
def impliedHTML : M Unit := do
  openHTML false []
  takeM rec t
  return ()
def openHead (own : Bool) (ats : List (ByteArray × ByteArray)) : M Unit := do
  let e ← newElA (⟨#[104, 101, 97, 100]⟩ : ByteArray) own ats
  upd fun σ => { σ with head := some e }
  insertM e
  setMode 3
  return ()
def startHead : M Unit := do
  openHead t.isTag t.tagAttrs
  return ()
def impliedHead : M Unit := do
  openHead false []
  takeM rec t
  return ()
def endHead : M Unit := do
  let _ ← pop'
  setMode 4
  return ()
def impliedEndOfHead : M Unit := do
  endHead
  takeM rec t
  return ()
def startBody : M Unit := do
  insertTag t
  setMode 6
  return ()
def impliedBody : M Unit := do
  insertNamed (⟨#[98, 111, 100, 121]⟩ : ByteArray)
  setMode 6
  takeM rec t
  return ()
def oEraseHead : M Unit := fun σ => oErase σ.head σ
def pushHead : M Unit := fun σ => pushM σ.head σ
def backInHead : M Unit := do
  pushHead
  rec 3 t
  oEraseHead
  return ()
def asTextM (of : ByteArray) (plain : Bool) : M Unit := upd fun σ => { σ with ofT := of, plainT := plain }
def openText (plain : Bool) : M Unit := do
  insertTag t
  asTextM t.name plain
  upd fun σ => { σ with kept := σ.mode }
  setMode 5
  return ()
def startText : M Unit := do
  openText t false
  return ()
def startPlainText : M Unit := do
  openText t true
  return ()
def endText : M Unit := do
  let _ ← pop'
  upd fun σ => { σ with mode := σ.kept }
  return ()
def cutText : M Unit := do
  endText
  takeM rec t
  return ()
def charInBody : M Unit := if isNulS t.chars then pure () else do
  reconstruct
  insertChar t
  return ()
def giveHTML : M Unit := fun σ => match getAt σ.opn 0 with
  | some i => (do giveM i t; return () : M Unit) σ
  | none => .stuck
def giveBody : M Unit := fun σ => match getAt σ.opn 1 with
  | some i => if eqS (σ.nm i) (⟨#[98, 111, 100, 121]⟩ : ByteArray) then (do giveM i t; return () : M Unit) σ else .ok () σ
  | none => .ok () σ
def startBlock : M Unit := do
  closePM
  insertTag t
  return ()
def startPre : M Unit := do
  startBlock t
  upd fun σ => { σ with behind := true }
  return ()
def startHeading : M Unit := do
  closePM
  popIfM (hasS [(⟨#[104, 49]⟩ : ByteArray), (⟨#[104, 50]⟩ : ByteArray)])
  insertTag t
  return ()
def startHr : M Unit := do
  closePM
  insertVoid t
  return ()
def startForm : M Unit := fun σ => match σ.form with
  | some _ => .ok () σ
  | none => (do
    startBlock t
    upd fun σ => { σ with form := σ.last }
    return () : M Unit) σ
def startButton : M Unit := do
  let _ ← closeM (hasS [(⟨#[98, 117, 116, 116, 111, 110]⟩ : ByteArray)]) pBounds
  startOther t
  return ()
def closePQ : M Unit := fun σ => if σ.quirks then .ok () σ else closePM σ
def startTable : M Unit := do
  closePQ
  insertTag t
  setMode 7
  return ()
def startTextarea : M Unit := do
  startText t
  upd fun σ => { σ with behind := true }
  return ()
def startOption : M Unit := do
  popIfM (hasS [(⟨#[111, 112, 116, 105, 111, 110]⟩ : ByteArray)])
  startOther t
  return ()
def startSelect : M Unit := do
  startOther t
  upd fun σ => { σ with mode := if σ.mode = 7 ∨ σ.mode = 9 ∨ σ.mode = 11 ∨ σ.mode = 12 ∨ σ.mode = 13 then 15 else 14 }
  return ()
def startLink : M Unit := fun σ => match σ.lastActive (⟨#[97]⟩ : ByteArray) with
  | none => (do startFormatting t; return () : M Unit) σ
  | some a => (do
    adopt (⟨#[97]⟩ : ByteArray)
    aErase (some a)
    oErase (some a)
    startFormatting t
    return () : M Unit) σ
def startNobr2 : M Unit := fun σ => if σ.inScope (hasS [(⟨#[110, 111, 98, 114]⟩ : ByteArray)]) pBounds then (do adopt (⟨#[110, 111, 98, 114]⟩ : ByteArray); startFormatting t; return () : M Unit) σ else (do startFormatting t; return () : M Unit) σ
def startNobr : M Unit := do
  reconstruct
  startNobr2 t
def endFormatting : M Unit := do
  adopt t.name
  return ()
def startObject : M Unit := do
  startOther t
  addEntry none
  return ()
def endObject : M Unit := do
  let b ← closeM (hasS [(⟨#[111, 98, 106, 101, 99, 116]⟩ : ByteArray)]) pBounds
  if b then unmark else pure ()
def endBody : M Unit := fun σ => if σ.inScope (hasS [(⟨#[98, 111, 100, 121]⟩ : ByteArray)]) pBounds then .ok () { σ with mode := 16 } else .ok () σ
def endHTML : M Unit := fun σ => if σ.inScope (hasS [(⟨#[98, 111, 100, 121]⟩ : ByteArray)]) pBounds then (do
    setMode 16
    takeM rec t
    return () : M Unit) σ else .ok () σ
def endBlock : M Unit := do
  let _ ← closeM (hasS [t.name]) pBounds
  return ()
def endHeading : M Unit := do
  let _ ← closeM (hasS [(⟨#[104, 49]⟩ : ByteArray), (⟨#[104, 50]⟩ : ByteArray)]) pBounds
  return ()
def endItem : M Unit := do
  let _ ← closeM (hasS [(⟨#[108, 105]⟩ : ByteArray)]) itemB
  return ()
def endP : M Unit := fun σ => if σ.inScope (hasS [(⟨#[112]⟩ : ByteArray)]) buttonB then (do closePM; return () : M Unit) σ else (do
    insertNamed (⟨#[112]⟩ : ByteArray)
    closePM
    return () : M Unit) σ
def endBreak : M Unit := do
  reconstruct
  insertNamed (⟨#[98, 114]⟩ : ByteArray)
  let _ ← pop'
  return ()
def endForm : M Unit := fun σ => match σ.form with
  | none => .ok () σ
  | some i => if σ.isInScope i then (do
      upd fun σ => { σ with form := none }
      upd fun σ => σ.impliedEnds
      oErase (some i)
      return () : M Unit) σ else .ok () { σ with form := none }
def endOther : M Unit := do
  endNamed t.name
  return ()
def endAll : M Unit := setMode 17
def backInBody : M Unit := do
  setMode 6
  takeM rec t
  return ()
def foster : M Unit := do
  upd fun σ => { σ with fostering := true }
  rec 6 t
  upd fun σ => { σ with fostering := false }
  return ()
def charInTable : M Unit := fun σ => if σ.current tableP then (do
    upd fun σ => { σ with kept := σ.mode }
    setMode 8
    takeM rec t
    return () : M Unit) σ else (do foster rec t; return () : M Unit) σ
def startCaption : M Unit := do
  clearToM (hasS [(⟨#[116, 97, 98, 108, 101]⟩ : ByteArray)])
  addEntry none
  insertTag t
  setMode 9
  return ()
def startFormInTable : M Unit := fun σ => match σ.form with
  | some _ => .ok () σ
  | none => (do
    insertTag t
    let x ← pop'
    upd fun σ => { σ with form := x }
    return () : M Unit) σ
def smallT (s : ByteArray) : ByteArray := ⟨s.data.map fun b => if 65 ≤ b.toNat ∧ b.toNat ≤ 90 then b + 32 else b⟩
def hiddenL : List (ByteArray × ByteArray) → Bool
  | [] => false
  | a :: r => if eqS a.1 (⟨#[116, 121, 112, 101]⟩ : ByteArray) then eqS (smallT a.2) (⟨#[104, 105, 100, 100, 101, 110]⟩ : ByteArray) else hiddenL r
def startInputInTable : M Unit := if hiddenL t.tagAttrs then (do insertVoid t; return ()) else (do foster rec t; return ())
def keepChar : M Unit := match t.k with
  | .char s => if isNulS s then pure () else fun σ => if σ.waiting.length < 4096 then .ok () { σ with waiting := σ.waiting ++ [(t.a, t.b, s)] } else .stuck
  | _ => stuck
def chTok (x : Nat × Nat × ByteArray) : ATok := { a := x.1, b := x.2.1, k := .char x.2.2 }
def insertAll : List (Nat × Nat × ByteArray) → M Unit
  | [] => pure ()
  | x :: r => do
    insertChar (chTok x)
    insertAll r
def fosterAll : List (Nat × Nat × ByteArray) → M Unit
  | [] => pure ()
  | x :: r => do
    foster rec (chTok x)
    fosterAll r
def allWaiting : M Unit := fun σ => if σ.waiting.any fun x => !isBlankS x.2.2 then fosterAll rec σ.waiting σ else insertAll σ.waiting σ
def endTableText : M Unit := do
  allWaiting rec
  upd fun σ => { σ with waiting := [], mode := σ.kept }
  takeM rec t
  return ()
def endPart (ks : List ByteArray) (m : Nat) : M Bool := do
  let b ← closeM (hasS ks) tableB
  if b then (do setMode m; return true) else return false
def endMarkedPart (ks : List ByteArray) (m : Nat) : M Bool := do
  let b ← endPart ks m
  if b then (do unmark; return true) else return false
def modeWithin (s : ByteArray) : Nat := if hasS [(⟨#[116, 100]⟩ : ByteArray), (⟨#[116, 104]⟩ : ByteArray)] s then 13 else if hasS [(⟨#[116, 114]⟩ : ByteArray)] s then 12 else if hasS [(⟨#[116, 98, 111, 100, 121]⟩ : ByteArray), (⟨#[116, 104, 101, 97, 100]⟩ : ByteArray), (⟨#[116, 102, 111, 111, 116]⟩ : ByteArray)] s then 11 else if hasS [(⟨#[99, 97, 112, 116, 105, 111, 110]⟩ : ByteArray)] s then 9 else if hasS [(⟨#[99, 111, 108, 103, 114, 111, 117, 112]⟩ : ByteArray)] s then 10 else if hasS [(⟨#[116, 97, 98, 108, 101]⟩ : ByteArray)] s then 7 else 6
def resetL (σ : Ab) : List (Option Nat) → Nat
  | [] => 6
  | x :: r => if modeWithin (σ.nmO x) = 6 then resetL σ r else modeWithin (σ.nmO x)
def resetM : M Unit := upd fun σ => { σ with mode := resetL σ σ.opn.reverse }
def endTable : M Bool := do
  let b ← closeM (hasS [(⟨#[116, 97, 98, 108, 101]⟩ : ByteArray)]) tableB
  if b then (do resetM; return true) else return false
def endCaption : M Bool := endMarkedPart [(⟨#[99, 97, 112, 116, 105, 111, 110]⟩ : ByteArray)] 7
def endColumnGroup : M Bool := fun σ => if σ.current (hasS [(⟨#[99, 111, 108, 103, 114, 111, 117, 112]⟩ : ByteArray)]) then (do
    let _ ← pop'
    setMode 7
    return true : M Bool) σ else .ok false σ
def endTableBody : M Bool := endPart [(⟨#[116, 98, 111, 100, 121]⟩ : ByteArray), (⟨#[116, 102, 111, 111, 116]⟩ : ByteArray), (⟨#[116, 104, 101, 97, 100]⟩ : ByteArray)] 7
def endRow : M Bool := endPart [(⟨#[116, 114]⟩ : ByteArray)] 11
def endCell : M Bool := endMarkedPart [(⟨#[116, 100]⟩ : ByteArray), (⟨#[116, 104]⟩ : ByteArray)] 12
def startCell : M Unit := do
  clearToM (hasS [(⟨#[116, 114]⟩ : ByteArray)])
  insertTag t
  setMode 13
  addEntry none
  return ()
def charInSelect : M Unit := if isNulS t.chars then pure () else do
  insertChar t
  return ()
def startOptionInSelect : M Unit := do
  popIfM (hasS [(⟨#[111, 112, 116, 105, 111, 110]⟩ : ByteArray)])
  insertTag t
  return ()
def startOptgroupInSelect : M Unit := do
  popIfM (hasS [(⟨#[111, 112, 116, 105, 111, 110]⟩ : ByteArray)])
  popIfM (hasS [(⟨#[111, 112, 116, 103, 114, 111, 117, 112]⟩ : ByteArray)])
  insertTag t
  return ()
def startHrInSelect : M Unit := do
  startOptgroupInSelect t
  let _ ← pop'
  return ()
def endOptgroupInSelect : M Unit := fun σ => if σ.current (hasS [(⟨#[111, 112, 116, 105, 111, 110]⟩ : ByteArray)]) then (match getAt σ.opn (posOf σ.opn σ.last - 1) with
    | none => .stuck
    | some i => if eqS (σ.nm i) (⟨#[111, 112, 116, 103, 114, 111, 117, 112]⟩ : ByteArray) then (do
        let _ ← pop'
        popIfM (hasS [(⟨#[111, 112, 116, 103, 114, 111, 117, 112]⟩ : ByteArray)])
        return () : M Unit) σ else (do popIfM (hasS [(⟨#[111, 112, 116, 103, 114, 111, 117, 112]⟩ : ByteArray)]); return () : M Unit) σ)
  else (do popIfM (hasS [(⟨#[111, 112, 116, 103, 114, 111, 117, 112]⟩ : ByteArray)]); return () : M Unit) σ
def endOptionInSelect : M Unit := do
  popIfM (hasS [(⟨#[111, 112, 116, 105, 111, 110]⟩ : ByteArray)])
  return ()
def endSelect : M Bool := do
  let b ← closeM (hasS [(⟨#[115, 101, 108, 101, 99, 116]⟩ : ByteArray)]) (fun s => !(hasS [(⟨#[111, 112, 116, 105, 111, 110]⟩ : ByteArray)] s || hasS [(⟨#[111, 112, 116, 103, 114, 111, 117, 112]⟩ : ByteArray)] s))
  if b then (do resetM; return true) else return false
end
end Go.Proofs.YtlhhgenpcjjajaaGreatDoor
namespace Go.Proofs.YtlhhgenpcjjajaaGreatDoor
open Go.RowKit
theorem To.ml {E : Env} {L : Loc} {σ σ' : Ab} {w w' : World} {α : Type} {val : (Nat → Nat) → α → Value} {a : α} {e : Ending} (h : To E L σ' w w') (he : e = .returned (val L.at' a)) (hl : σ.nodes.length ≤ σ'.nodes.length) : MLeaves E L.at' σ.nodes.length w (.ok a σ') val e w' := by
  obtain ⟨L', e1, h3, h4⟩ := h
  exact ⟨he, ⟨L', e1, h3⟩, h4, hl⟩
theorem upTo_m {E : Env} {f : Nat → Nat} {σ : Ab} {w : World} (h : RF E f σ w) {v : Value} {p : ByteArray → Bool} (ha : Ask E.bm v p w) :
    Calls Tryz.prog 293 #[Bp E, v] w (MLeaves E f σ.nodes.length w (.ok () (σ.upTo p)) uV) := by
  obtain ⟨L, rfl, hr⟩ := h
  exact (upTo_ok hr v p ha).mono (fun e w' h => h.2.ml h.1 (Nat.le_refl _))
theorem popIf_m {E : Env} {f : Nat → Nat} {σ : Ab} {w : World} (h : RF E f σ w) {v : Value} {p : ByteArray → Bool} (ha : Ask E.bm v p w) :
    Calls Tryz.prog 241 #[Bp E, v] w (MLeaves E f σ.nodes.length w (popIfM p σ) uV) := by
  obtain ⟨L, rfl, hr⟩ := h
  exact (popIf_ok hr v p ha).mono (fun e w' h => h.2.ml h.1 (by unfold Ab.popIf; split <;> exact Nat.le_refl _))
theorem clearTo_m {E : Env} {f : Nat → Nat} {σ : Ab} {w : World} (h : RF E f σ w) {k : Nat} {lb : Array Value} {p : ByteArray → Bool} (ha : Ask E.bm (.func (.func k) #[] lb) p w) :
    Calls Tryz.prog 222 #[Bp E, .func (.func k) #[] lb] w (MLeaves E f σ.nodes.length w (clearToM p σ) uV) := by
  obtain ⟨L, rfl, hr⟩ := h
  exact (clearTo_ok hr _ _ _ p ha).mono (fun e w' h => h.2.ml h.1 (Nat.le_refl _))
theorem impliedEnds_m {E : Env} {f : Nat → Nat} {σ : Ab} {w : World} (h : RF E f σ w) :
    Calls Tryz.prog 288 #[Bp E] w (MLeaves E f σ.nodes.length w (upd (fun σ => σ.impliedEnds) σ) uV) := by
  obtain ⟨L, rfl, hr⟩ := h
  exact (impliedEnds_ok hr).mono (fun e w' h => h.2.ml h.1 (Nat.le_refl _))
theorem current_r {E : Env} {f : Nat → Nat} {σ : Ab} {w : World} (h : RF E f σ w) {v : Value} {p : ByteArray → Bool} (ha : Ask E.bm v p w) :
    Calls Tryz.prog 220 #[Bp E, v] w fun e w' => e = .returned (.bool (σ.current p)) ∧ w' = w := by
  obtain ⟨L, rfl, hr⟩ := h
  exact current_ok hr v p ha
set_option maxHeartbeats 1000000 in
theorem close_m {E : Env} {f : Nat → Nat} {σ : Ab} {w : World} (h : RF E f σ w) {k1 k2 : Nat} {lb1 lb2 : Array Value} {p q : ByteArray → Bool} (hp : Ask E.bm (.func (.func k1) #[] lb1) p w) (hq : Ask E.bm (.func (.func k2) #[] lb2) q w) :
    Calls Tryz.prog 228 #[Bp E, .func (.func k1) #[] lb1, .func (.func k2) #[] lb2] w (MLeaves E f σ.nodes.length w (closeM p q σ) bV) := by
  have C1 := hide (inScope_r h p q _ _ hp hq)
  have HP := hide hp
  have H := hide (At.start h)
  unfold closeM
  clear h hp hq
  cases hi : σ.inScope p q with
  | false =>
    rw [hi] at C1
    rw [if_neg (by simp)]
    clear hi
    go_enter Tryz.func228, Tryz.ntmps228
    go_wp2_with fail
    refine C1.out.mono ?_
    rintro e w1 ⟨rfl, hk⟩
    replace H := hide (H.out.k0 hk)
    clear hk
    go_wp2
    go_ret
    exact moves_ok rfl H.out rfl
  | true =>
    rw [hi] at C1
    rw [if_pos (by simp)]
    clear hi
    go_enter Tryz.func228, Tryz.ntmps228
    go_wp2_with fail
    refine C1.out.mono ?_
    rintro e w1 ⟨rfl, hk⟩
    have C2 := hide (upTo_m (H.out.k0 hk).rel (HP.out.k0 hk))
    replace H := hide (H.out.k0 hk)
    clear hk
    go_wp2_with fail
    refine C2.out.mono ?_
    rintro e w2 ⟨rfl, h1, h2, h3⟩
    replace H := hide (H.out.to h1 h3 h2)
    clear h1 h2 h3 C2
    go_wp2
    go_ret
    exact moves_ok rfl H.out rfl
set_option maxHeartbeats 1000000 in
theorem closeP_m {E : Env} {f : Nat → Nat} {σ : Ab} {w : World} (h : RF E f σ w) (hs : closePM σ ≠ .stuck) :
    Calls Tryz.prog 278 #[Bp E] w (MLeaves E f σ.nodes.length w (closePM σ) uV) := by
  obtain ⟨R, hR⟩ : ∃ R, R = (closePM) σ := ⟨_, rfl⟩
  rw [← hR] at hs ⊢
  unfold closePM at hR
  have HS := hide hs
  have H := hide (At.start h)
  have HR := hide hR
  clear h hs hR
  go_enter Tryz.func278, Tryz.ntmps278
  have C1 := hide (is_one E [(⟨#[112]⟩ : ByteArray)] w (by decide))
  go_wp2_with fail
  refine C1.out.mono ?_
  rintro e w1 ⟨k1, lb1, rfl, ha1, hk1⟩
  replace H := hide (H.out.k0 hk1)
  have HA1 := hide ha1
  clear ha1 hk1 C1
  go_wp2_with fail
  refine (buttonBounds_ok H.out.rel).mono ?_
  rintro e w2 ⟨k2, lb2, rfl, ha2, hk2⟩
  replace HA1 := hide (HA1.out.k0 hk2)
  replace H := hide (H.out.k0 hk2)
  have HA2 := hide ha2
  clear ha2 hk2
  go_wp2_with fail
  refine mcall (fun _ => close_m H.out.rel HA1.out HA2.out) H.out HR.out HS.out ?_ ?_
  · intro c p j ws h1 h2 h3
    have H1 := hide h1
    have H2 := hide h2
    have H3 := hide h3
    clear h1 h2 h3
    go_wp2
    exact ⟨rfl, moves_stop H1.out H2.out H3.out⟩
  rintro (_) σ w h1 h2 h3
  have HF := hide h2
  replace H := hide h1
  replace HR := hide h3
  clear h1 h2 h3
  try dsimp only at HR
  go_wp2
  go_end0
  exact moves_ok HR.out H.out rfl
abbrev zPl : Obj := .cells #[.pointer none, .int .i64 0] 235 (0, 0)
theorem M.bind_pure {α : Type} (m : M α) (σ : Ab) : (m >>= fun a => (Pure.pure a : M α)) σ = m σ := by
  rw [M.bind_run]; cases m σ <;> rfl
set_option maxHeartbeats 2000000 in
set_option maxRecDepth 100000 in
theorem placeFor_m (E : Env) (hF : FosterOk E) (i : Nat) : Moves E 178 (fun f => #[Bp E, nV f i]) (placeFor i) pV := by
  intro f σ w h hs
  have HB := hide (heap_alloc_at w zPl)
  have hlt := h.lt
  have H0 := hide ((At.start h).k0 ((Kept.refl _ w).alloc zPl))
  have c195 : w.cell? ⟨E.bB, 195, none⟩ = some (.bool σ.fostering) := (At.start h).c195
  obtain ⟨R, hR⟩ : ∃ R, R = placeFor i σ := ⟨_, rfl⟩
  rw [← hR] at hs ⊢
  have HS := hide hs
  unfold placeFor at hR
  cases hfo : σ.fostering with
  | false =>
    rw [hfo] at hR c195
    rw [if_neg (by simp)] at hR
    have H := H0
    have HR : Hid (R = (endOf i >>= fun pl => pure pl) σ) := hide (hR.trans (M.bind_pure (endOf i) σ).symm)
    clear h hs hR hfo H0
    go_enter Tryz.func178, Tryz.ntmps178
    go_wp2_with fail
    go_quiet (fail)
    replace H := hide (H.out.k0 ((Kept.refl _ (w.alloc zPl)).drewN nq))
    go_wp2_with fail
    refine Moves.call (end_m E i) H.out HR.out HS.out rfl ?_ ?_
    · intro c p j ws h1 h2 h3
      have H1 := hide h1
      have H2 := hide h2
      have H3 := hide h3
      clear h1 h2 h3
      go_wp2
      exact ⟨rfl, moves_stop H1.out H2.out H3.out⟩
    rintro pl σ1 w1 h1 h2 h3
    have hb := ((Fr.of_kept0 ((Kept.refl _ (w.alloc zPl)).drewN nq)).trans h2).cell HB.out (by decide)
    have c0 : w1.cell? ⟨w.heap.size, 0, none⟩ = some (.pointer none) := by rw [cell_at hb]; rfl
    have c1 : w1.cell? ⟨w.heap.size, 1, none⟩ = some (.int .i64 0) := by rw [cell_at hb]; rfl
    have f0 := free_at hb 0
    have f1 := free_at hb 1
    replace H := hide (((h1.side hb (by decide) (Nat.le_refl _) 0 (.pointer (some ⟨f pl.1, 0, none⟩))).side (block_setCell hb 0 _) (by decide) (Nat.le_refl _) 1 (.int .i64 (pl.2 : Int))))
    replace HR := hide h3
    have hb2 := hide (block_setCell (block_setCell hb 0 (.pointer (some ⟨f pl.1, 0, none⟩))) 1 (.int .i64 (pl.2 : Int)))
    clear h1 h2 h3
    go_wp2
    refine bodyPost_ret (v := pV f pl) ?_ rfl (moves_ok HR.out H.out rfl)
    simp [results, Tryz.results178, asAddr, Result.andThen, go_sem, cell_at hb2.out]
  | true =>
    rw [hfo] at hR c195
    have hel : ∃ e, σ.el? i = some e := by
      cases he : σ.el? i with
      | some e => exact ⟨e, rfl⟩
      | none =>
        exfalso
        have hnm : σ.nm i = ⟨#[]⟩ := by unfold Ab.nm; rw [he]
        have htp : tableP (σ.nm i) = false := by rw [hnm]; simp [tableP, hasS, eqS, ByteArray.toList_eq]
        rw [htp] at hR
        simp only [Bool.and_false, Bool.false_eq_true, if_false] at hR
        apply hs
        rw [hR]
        unfold endOf
        rw [he]
    obtain ⟨e0, he0⟩ := hel
    have hN : ∀ W, Kept [] w W → W.cell? ⟨f i, 0, none⟩ = some (.string (σ.nm i)) := by
      intro W hk
      obtain ⟨L, rfl, hr⟩ := h
      exact (hr.kept0 hk).nameAt he0
    have cN := hN w (Kept.refl _ _)
    have HN := hide hN
    have hlt2 : f i < w.heap.size := by
      obtain ⟨L, rfl, hr⟩ := h
      exact hr.at_lt (Ab.lt_of_el he0)
    have HR := hide hR
    have HS0 := hide (At.start h)
    clear h hs hR hN
    go_enter Tryz.func178, Tryz.ntmps178
    go_wp2_with fail
    go_cut [16] from 5 to 15 (fun b wc => b = .bool (tableP (σ.nm i)) ∧ Kept [] w wc ∧ wc.heap[w.heap.size]? = some zPl)
    case first =>
      go_region_with (first
        | (go_at_call 221; refine (tableParts_ok E _).mono ?_; rintro e w1 ⟨k1, lb1, rfl, ha1, hk1⟩; have hk0 : Kept [] w w1 := (((Kept.refl _ w).alloc zPl).drew).trans hk1; have c1 := HN.out w1 hk0; obtain ⟨k1', lb1', e1, he1, hc1⟩ := ha1.call; cases e1; have HC1 := hide (hc1 w1 (FrN.refl _ _) (σ.nm i)); have HK1 := hide hk0; have HB1 := hide (hk1.at HB.out (by simp)); clear ha1 hk1 hk0 hc1)
        | (refine HC1.out.mono ?_; rintro e w2 ⟨rfl, rfl⟩))
      all_goals (try (go_wp2_with fail))
      all_goals (go_meet; exact ⟨rfl, HK1.out, HB1.out⟩)
    case rest =>
      obtain ⟨rfl, hk, hb0⟩ := hcut
      have H : Hid (At E f σ.nodes.length w f σ wc) := hide (HS0.out.k0 hk)
      have HBc := hide hb0
      clear hk hb0 HN cN HB H0 c195
      cases htp : tableP (σ.nm i) with
      | true =>
        have HR2 : Hid (R = (fosterPlace >>= fun pl => (Pure.pure pl : M (Nat × Nat))) σ) := by
          refine hide ?_
          rw [M.bind_pure]
          have := HR.out
          rw [htp] at this
          exact this
        replace HR := HR2
        clear htp HR2
        go_wp2_with fail
        refine Moves.call hF H.out HR.out HS.out rfl ?_ ?_
        · intro c p j ws h1 h2 h3
          have H1 := hide h1
          have H2 := hide h2
          have H3 := hide h3
          clear h1 h2 h3
          go_wp2
          exact ⟨rfl, moves_stop H1.out H2.out H3.out⟩
        rintro pl σ1 w1 h1 h2 h3
        have hb := h2.cell HBc.out (by decide)
        have c0 : w1.cell? ⟨w.heap.size, 0, none⟩ = some (.pointer none) := by rw [cell_at hb]; rfl
        have c1 : w1.cell? ⟨w.heap.size, 1, none⟩ = some (.int .i64 0) := by rw [cell_at hb]; rfl
        have f0 := free_at hb 0
        have f1 := free_at hb 1
        replace H := hide (((h1.side hb (by decide) (Nat.le_refl _) 0 (.pointer (some ⟨f pl.1, 0, none⟩))).side (block_setCell hb 0 _) (by decide) (Nat.le_refl _) 1 (.int .i64 (pl.2 : Int))))
        replace HR := hide h3
        have hb2 := hide (block_setCell (block_setCell hb 0 (.pointer (some ⟨f pl.1, 0, none⟩))) 1 (.int .i64 (pl.2 : Int)))
        clear h1 h2 h3
        go_wp2
        refine bodyPost_ret (v := pV f pl) ?_ rfl (moves_ok HR.out H.out rfl)
        simp [results, Tryz.results178, asAddr, Result.andThen, go_sem, cell_at hb2.out]
      | false =>
        have HR2 : Hid (R = (endOf i >>= fun pl => (Pure.pure pl : M (Nat × Nat))) σ) := by
          refine hide ?_
          rw [M.bind_pure]
          have := HR.out
          rw [htp] at this
          exact this
        replace HR := HR2
        clear htp HR2
        go_wp2_with fail
        refine Moves.call (end_m E i) H.out HR.out HS.out rfl ?_ ?_
        · intro c p j ws h1 h2 h3
          have H1 := hide h1
          have H2 := hide h2
          have H3 := hide h3
          clear h1 h2 h3
          go_wp2
          exact ⟨rfl, moves_stop H1.out H2.out H3.out⟩
        rintro pl σ1 w1 h1 h2 h3
        have hb := h2.cell HBc.out (by decide)
        have c0 : w1.cell? ⟨w.heap.size, 0, none⟩ = some (.pointer none) := by rw [cell_at hb]; rfl
        have c1 : w1.cell? ⟨w.heap.size, 1, none⟩ = some (.int .i64 0) := by rw [cell_at hb]; rfl
        have f0 := free_at hb 0
        have f1 := free_at hb 1
        replace H := hide (((h1.side hb (by decide) (Nat.le_refl _) 0 (.pointer (some ⟨f pl.1, 0, none⟩))).side (block_setCell hb 0 _) (by decide) (Nat.le_refl _) 1 (.int .i64 (pl.2 : Int))))
        replace HR := hide h3
        have hb2 := hide (block_setCell (block_setCell hb 0 (.pointer (some ⟨f pl.1, 0, none⟩))) 1 (.int .i64 (pl.2 : Int)))
        clear h1 h2 h3
        go_wp2
        refine bodyPost_ret (v := pV f pl) ?_ rfl (moves_ok HR.out H.out rfl)
        simp [results, Tryz.results178, asAddr, Result.andThen, go_sem, cell_at hb2.out]
set_option maxHeartbeats 2000000 in
theorem place_m (E : Env) (hF : FosterOk E) : Moves E 105 (fun _ => #[Bp E]) placeM pV := by
  intro f σ w h hs
  cases hl : σ.last with
  | none => exfalso; apply hs; unfold placeM; rw [hl]
  | some i =>
    have e0 : placeM σ = (placeFor i >>= fun pl => pure pl) σ := by
      unfold placeM; rw [hl, M.bind_pure]
    obtain ⟨R, hR⟩ : ∃ R, R = placeM σ := ⟨_, rfl⟩
    have C1 : Hid (Calls Tryz.prog 179 #[.pointer (some ⟨E.bB, 188, none⟩)] (w.alloc zPl) fun e w' => e = .returned (.pointer (some ⟨f i, 0, none⟩)) ∧ w' = w.alloc zPl) := by
      obtain ⟨L, rfl, hr⟩ := h
      have := o_last (hr.kept0 ((Kept.refl _ w).alloc zPl))
      rw [show getAt σ.opn ((σ.opn.length : Int) - 1) = some i from hl] at this
      exact this
    rw [← hR] at hs ⊢
    rw [e0] at hR
    have HS := hide hs
    have H := hide ((At.start h).k0 ((Kept.refl _ w).alloc zPl))
    have HR := hide hR
    have HB := hide (heap_alloc_at w zPl)
    have hlt := h.lt
    clear h hs hR e0 hl
    go_enter Tryz.func105, Tryz.ntmps105
    go_wp2_with fail
    refine C1.out.mono ?_
    rintro e w' ⟨rfl, rfl⟩
    go_wp2_with fail
    refine Moves.call (placeFor_m E hF i) H.out HR.out HS.out rfl ?_ ?_
    · intro c p j ws h1 h2 h3
      have H1 := hide h1
      have H2 := hide h2
      have H3 := hide h3
      clear h1 h2 h3
      go_wp2
      exact ⟨rfl, moves_stop H1.out H2.out H3.out⟩
    rintro pl σ1 w1 h1 h2 h3
    have hb := h2.cell HB.out (by decide)
    have c0 : w1.cell? ⟨w.heap.size, 0, none⟩ = some (.pointer none) := by rw [cell_at hb]; rfl
    have c1 : w1.cell? ⟨w.heap.size, 1, none⟩ = some (.int .i64 0) := by rw [cell_at hb]; rfl
    have f0 := free_at hb 0
    have f1 := free_at hb 1
    replace H := hide (((h1.side hb (by decide) (Nat.le_refl _) 0 (.pointer (some ⟨f pl.1, 0, none⟩))).side (block_setCell hb 0 _) (by decide) (Nat.le_refl _) 1 (.int .i64 (pl.2 : Int))))
    replace HR := hide h3
    have hb2 := hide (block_setCell (block_setCell hb 0 (.pointer (some ⟨f pl.1, 0, none⟩))) 1 (.int .i64 (pl.2 : Int)))
    clear h1 h2 h3
    go_wp2
    refine bodyPost_ret (v := pV f pl) ?_ rfl (moves_ok HR.out H.out rfl)
    simp [results, Tryz.results105, asAddr, Result.andThen, go_sem, cell_at hb2.out]
end Go.Proofs.YtlhhgenpcjjajaaGreatDoor
namespace Go.Proofs.YtlhhgenpcjjajaaGreatDoor
open Go.RowKit
theorem RF.tv {E : Env} {f : Nat → Nat} {σ : Ab} {w : World} (h : RF E f σ w) : ∃ ao n cp, E.tv = .slice ao n cp := by
  obtain ⟨L, _, hr⟩ := h
  obtain ⟨ao, cap, e⟩ := owns_shape hr.tok
  exact ⟨ao, _, cap, e⟩
section
variable (E : Env) (hF : FosterOk E)
include hF
theorem insert_p (j : Nat) : Moves E 268 (fun f => #[Bp E, nV f j]) (insertM j) uV := insert_m E (place_m E hF) j
theorem insertNamed_p (s : ByteArray) : Does E 188 (fun _ => #[Bp E, .string s]) (insertNamed s) uV := insertNamed_d E (place_m E hF) s
set_option maxHeartbeats 2000000 in
theorem insertTag_p (t : ATok) (ht : TokOk E t) : Does E 183 (fun _ => #[Bp E, tokV E t]) (insertTag t) uV := by
  intro f σ w h hs
  obtain ⟨ao, n, cp, htv⟩ := h.tv
  have hst : t.isTag = true ∧ σ.fresh = true := by
    unfold insertTag at hs
    rw [M.bind_run] at hs
    unfold newTagEl at hs
    cases hc : (σ.fresh && t.isTag) with
    | true => simp at hc; exact ⟨hc.2, hc.1⟩
    | false => simp [hc] at hs
  have hta := ht hst.1
  have htg : t.tagAttrs = E.ta ∧ tagV E t = #[.int .i64 (t.a : Int), .int .i64 (t.b : Int), .string t.name, .slice ao n cp] := by
    obtain ⟨a, b, k, ats⟩ := t
    cases k <;> simp_all [ATok.isTag, ATok.tagAttrs, tagV, ATok.name]
  obtain ⟨R, hR⟩ : ∃ R, R = (insertTag t) σ := ⟨_, rfl⟩
  rw [← hR] at hs ⊢
  have hR2 : R = (insertM σ.nodes.length >>= fun _ => (Pure.pure () : M Unit)) (σ.addF (.el { name := t.name, attrs := E.ta, par := none, kids := [] }) false) := by
    rw [hR]
    unfold insertTag
    rw [M.bind_run]
    unfold newTagEl
    simp only [hst.1, hst.2, htg.1, Bool.and_self, if_true]
  have HS := hide hs
  have HR := hide hR2
  have C1 := tagOf_ok E t w ⟨ao, n, cp, htv⟩
  rw [htg.2] at C1
  have HC1 := hide C1
  have H := hide (At.start h)
  have hlt := h.lt
  have HFr := hide hst.2
  clear h hs hR hR2 hst hta htg C1
  go_enter Tryz.func183, Tryz.ntmps183
  go_wp2_with fail
  refine HC1.out.mono ?_
  rintro e w1 ⟨rfl, hk⟩
  replace H := hide ((H.out.k0 (hk.alloc (.cells #[.int .i64 (t.a : Int), .int .i64 (t.b : Int), .string t.name, .slice ao n cp] 194 (0, 0)))).newTagEl HFr.out t.name)
  rw [htv] at H
  clear hk HC1
  go_wp2_with fail
  refine Moves.call (insert_p E hF σ.nodes.length) H.out HR.out HS.out (by rw [nV_new]; simp) ?_ ?_
  · intro c p j ws h1 h2 h3
    have H1 := hide h1
    have H2 := hide h2
    have H3 := hide h3
    clear h1 h2 h3
    go_wp2
    exact ⟨rfl, leaves_stop H1.out H2.out H3.out⟩
  rintro (_) σ w h1 h2 h3
  have HF := hide h2
  replace H := hide h1
  replace HR := hide h3
  clear h1 h2 h3
  try dsimp only at HR
  go_wp2
  go_end0
  exact leaves_ok HR.out H.out rfl
set_option maxHeartbeats 2000000 in
theorem insertVoid_p (t : ATok) (ht : TokOk E t) : Does E 110 (fun _ => #[Bp E, tokV E t]) (insertVoid t) uV := by
  intro f σ w h hs
  obtain ⟨R, hR⟩ : ∃ R, R = (insertVoid t) σ := ⟨_, rfl⟩
  rw [← hR] at hs ⊢
  unfold insertVoid at hR
  have HS := hide hs
  have H := hide (At.start h)
  have HR := hide hR
  clear h hs hR
  go_enter Tryz.func110, Tryz.ntmps110
  go_wp2_with fail
  refine Does.call (insertTag_p E hF t ht) H.out HR.out HS.out (rfl) ?_ ?_
  · intro c p j ws h1 h2 h3
    have H1 := hide h1
    have H2 := hide h2
    have H3 := hide h3
    clear h1 h2 h3
    go_wp2
    exact ⟨rfl, leaves_stop H1.out H2.out H3.out⟩
  rintro (_) f σ w h1 h0 h2 h3
  have HX := hide h0
  have HF := hide h2
  clear h0
  replace H := hide h1
  replace HR := hide h3
  clear h1 h2 h3
  try dsimp only at HR
  go_wp2_with fail
  refine Moves.call (pop_m E) H.out HR.out HS.out (rfl) ?_ ?_
  · intro c p j ws h1 h2 h3
    have H1 := hide h1
    have H2 := hide h2
    have H3 := hide h3
    clear h1 h2 h3
    go_wp2
    exact ⟨rfl, leaves_stop H1.out H2.out H3.out⟩
  rintro (_) σ w h1 h2 h3
  have HF := hide h2
  replace H := hide h1
  replace HR := hide h3
  clear h1 h2 h3
  try dsimp only at HR
  go_wp2
  go_end0
  exact leaves_ok HR.out H.out rfl
set_option maxHeartbeats 2000000 in
theorem insertChar_p (t : ATok) : Does E 109 (fun _ => #[Bp E, tokV E t]) (insertChar t) uV := by
  intro f σ w h hs
  obtain ⟨R, hR⟩ : ∃ R, R = (insertChar t) σ := ⟨_, rfl⟩
  rw [← hR] at hs ⊢
  unfold insertChar at hR
  have HS := hide hs
  have H := hide (At.start h)
  have HR := hide hR
  clear h hs hR
  go_enter Tryz.func109, Tryz.ntmps109
  go_wp2_with fail
  refine Moves.call (place_m E hF) H.out HR.out HS.out (rfl) ?_ ?_
  · intro c p j ws h1 h2 h3
    have H1 := hide h1
    have H2 := hide h2
    have H3 := hide h3
    clear h1 h2 h3
    go_wp2
    exact ⟨rfl, leaves_stop H1.out H2.out H3.out⟩
  rintro (pl) σ w h1 h2 h3
  have HF := hide h2
  replace H := hide h1
  replace HR := hide h3
  clear h1 h2 h3
  try dsimp only at HR
  go_wp2_with fail
  refine (charsOf_ok E t _).mono ?_
  rintro e w1 ⟨rfl, hk⟩
  replace H := hide (H.out.k0 hk)
  clear hk
  go_wp2_with fail
  refine Does.call (putChars_d E pl t.chars) H.out HR.out HS.out (rfl) ?_ ?_
  · intro c p j ws h1 h2 h3
    have H1 := hide h1
    have H2 := hide h2
    have H3 := hide h3
    clear h1 h2 h3
    go_wp2
    exact ⟨rfl, leaves_stop H1.out H2.out H3.out⟩
  rintro (_) f σ w h1 h0 h2 h3
  have HX := hide h0
  have HF := hide h2
  clear h0
  replace H := hide h1
  replace HR := hide h3
  clear h1 h2 h3
  try dsimp only at HR
  go_wp2
  go_end0
  exact leaves_ok HR.out H.out rfl
set_option maxHeartbeats 2000000 in
theorem startBlock_p (t : ATok) (ht : TokOk E t) : Does E 193 (fun _ => #[Bp E, tokV E t]) (startBlock t) uV := by
  intro f σ w h hs
  obtain ⟨R, hR⟩ : ∃ R, R = (startBlock t) σ := ⟨_, rfl⟩
  rw [← hR] at hs ⊢
  unfold startBlock at hR
  have HS := hide hs
  have H := hide (At.start h)
  have HR := hide hR
  clear h hs hR
  go_enter Tryz.func193, Tryz.ntmps193
  go_wp2_with fail
  refine mcall (fun hm => closeP_m H.out.rel hm) H.out HR.out HS.out ?_ ?_
  · intro c p j ws h1 h2 h3
    have H1 := hide h1
    have H2 := hide h2
    have H3 := hide h3
    clear h1 h2 h3
    go_wp2
    exact ⟨rfl, leaves_stop H1.out H2.out H3.out⟩
  rintro (_) σ w h1 h2 h3
  have HF := hide h2
  replace H := hide h1
  replace HR := hide h3
  clear h1 h2 h3
  try dsimp only at HR
  go_wp2_with fail
  refine Does.call (insertTag_p E hF t ht) H.out HR.out HS.out (rfl) ?_ ?_
  · intro c p j ws h1 h2 h3
    have H1 := hide h1
    have H2 := hide h2
    have H3 := hide h3
    clear h1 h2 h3
    go_wp2
    exact ⟨rfl, leaves_stop H1.out H2.out H3.out⟩
  rintro (_) f σ w h1 h0 h2 h3
  have HX := hide h0
  have HF := hide h2
  clear h0
  replace H := hide h1
  replace HR := hide h3
  clear h1 h2 h3
  try dsimp only at HR
  go_wp2
  go_end0
  exact leaves_ok HR.out H.out rfl
set_option maxHeartbeats 2000000 in
theorem startPre_p (t : ATok) (ht : TokOk E t) : Does E 194 (fun _ => #[Bp E, tokV E t]) (startPre t) uV := by
  intro f σ w h hs
  obtain ⟨R, hR⟩ : ∃ R, R = (startPre t) σ := ⟨_, rfl⟩
  rw [← hR] at hs ⊢
  unfold startPre at hR
  have HS := hide hs
  have H := hide (At.start h)
  have HR := hide hR
  clear h hs hR
  go_enter Tryz.func194, Tryz.ntmps194
  go_wp2_with fail
  refine Does.call (startBlock_p E hF t ht) H.out HR.out HS.out (rfl) ?_ ?_
  · intro c p j ws h1 h2 h3
    have H1 := hide h1
    have H2 := hide h2
    have H3 := hide h3
    clear h1 h2 h3
    go_wp2
    exact ⟨rfl, leaves_stop H1.out H2.out H3.out⟩
  rintro (_) f σ w h1 h0 h2 h3
  have HX := hide h0
  have HF := hide h2
  clear h0
  replace H := hide h1
  replace HR := hide h3
  clear h1 h2 h3
  try dsimp only at HR
  have c1 := H.out.c198
  have f1 := H.out.free 198
  replace H := hide (H.out.set_behind true)
  go_wp2
  go_end0
  exact leaves_ok HR.out H.out rfl
end
end Go.Proofs.YtlhhgenpcjjajaaGreatDoor
namespace Go.Proofs.YtlhhgenpcjjajaaGreatDoor
open Go.RowKit
theorem tag_name (a b : Int) (s : ByteArray) (ao : Option Addr) (n cp : Nat) (w : World) : (Instr.field 194 (.agg #[.int .i64 a, .int .i64 b, .string s, .slice ao n cp]) 1).run Tryz.prog w = .ok (.string s) w := by
  have hu := Tryz.underlying194
  simp [Instr.field, run_underlying hu, go_sem, asAgg, Result.andThen]
theorem tag_attrs (a b : Int) (s : ByteArray) (ao : Option Addr) (n cp : Nat) (w : World) : (Instr.field 194 (.agg #[.int .i64 a, .int .i64 b, .string s, .slice ao n cp]) 2).run Tryz.prog w = .ok (.slice ao n cp) w := by
  have hu := Tryz.underlying194
  simp [Instr.field, run_underlying hu, go_sem, asAgg, Result.andThen]
end Go.Proofs.YtlhhgenpcjjajaaGreatDoor
