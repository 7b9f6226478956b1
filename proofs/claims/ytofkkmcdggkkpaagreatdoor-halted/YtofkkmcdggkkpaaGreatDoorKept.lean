import Derived.WalkKit
import Derived.WalkSpells
import Derived.WalkLawsBesides
import Derived.Deep.Draws
import Derived.ArgAppend
import Derived.Laws.OwnMore
import Derived.LaidEqlPtr
import Derived.Deep.RegionLaw
import Derived.Lib.SliceRun
import Derived.Laws.IdiomCopy
import Derived.Shelf.RegionOpenPlain
import Derived.Lib.Overlaps
import Derived.Lib.AppendZerosOnto
import Derived.Laws.NewBlocks
import Derived.Laws.Externs
import Derived.Shelf.Spec.SlicesInsert
import Derived.RangeFuncNested
import Derived.RangeFuncBound
import Derived.RangeFuncCalls
import Derived.RangeFuncLeaves
import Derived.Shelf.Abstract
import Derived.Shelf.RegionOpen
import Derived.OwnWalkIn
import Derived.TacticsInMore
import Derived.LoopNIn
import Derived.LoopIn
import Derived.Maps.RangeRun
import Derived.Deep.RegionHeld3
import Derived.Deep.CutRange
import Derived.LaidEql
import Derived.Laws.IdiomStrings
import Derived.Laws.Concat
import Derived.Test.YtofkkmcdggkkpaaGreatDoorShelf
import Derived.Lib.ItoaMem
set_option linter.unusedSimpArgs false
set_option linter.unusedVariables false
set_option linter.defProp false
set_option maxHeartbeats 0
set_option maxRecDepth 100000
namespace Go.Proofs.YtofkkmcdggkkpaaGreatDoor
open Go.RowKit Tryz
def ij:=@Nat.le_refl
def jN:=@Nat.le_trans
def lU:=@Nat.lt_of_lt_of_le
def ZN:=@World.cell?_of_block
def jn:=@lt_of_block
def Xa:=@List.eq_nil_of_length_eq_zero
def oY:=@World.ownsRow_nil
def RA:=@Sem.run_bind
def yy:=@List.map_cons
def gR:=@if_neg
def gF:=@if_pos
def Eh:=@List.getElem?_take
def pO:=@run_underlying
def vn:=@decide_eq_true
def xm:=@decide_eq_false
def uP:=@List.getElem_mem
def vo:=@wp_loop_rounds
def oW:=@rounds_succ
def qd:=@List.length_cons
def ZL:=@List.take_succ_eq_append_getElem
def AJ:=@Array.getElem?_eq_getElem
def jK:=@Option.some.inj
def vp:=@info_parts
def UR:=@List.getElem?_drop
def Kh:=@Nat.mul_one
def Rt:=@List.mem_of_mem_drop
def BI:=@List.append_assoc
def ZM:=@List.take_append_of_le_length
def US:=@List.take_take
def xn:=@Ne.symm
def yx:=@ownsRow_setCell_other
def oX:=@List.mem_cons_of_mem
def ZO:=@List.dropLast_eq_take
def rq:=@List.getElem?_eq_getElem
def ru:=@List.map_append
def tu:=@List.mem_of_getElem?
def UT:=@List.reverse_append
def ZP:=@List.eq_nil_or_concat
def Rv:=@List.dropLast_concat
def qe:=@bodyPost_ret
def Ki:=@results_none
def pk:=@World.putObj_heap_other
def wK:=@List.size_toArray
def uQ:=@List.length_nil
def wL:=@Array.replicate_succ
def wM:=@Array.replicate_zero
def wN:=@List.push_toArray
def wO:=@List.append_toArray
def rQ:=@List.nil_append
def uR:=@List.cons_append
def Rw:=@List.getElem?_reverse
def Kk:=@List.take_add_one
def Kl:=@List.take_of_length_le
def sH:=@ByteArray.toList_eq
def ZQ:=@List.findIdx_lt_length_of_exists
def sI:=@congrArg
def ry:=@World.size_alloc
def Rx:=@List.cons.injEq
def Ry:=@Array.size_setIfInBounds
def Ei:=@Array.getElem?_setIfInBounds_ne
def Km:=@MapKept.run_getObj_map
def UU:=@List.getElem?_map
def UV:=@Array.getElem?_toList
def UW:=@List.filter_eq_nil_iff
def rR:=@Bool.and_eq_true
def MB:=@List.mem_filter
def Rz:=@Array.getD_eq_getD_getElem?
def BJ:=@Array.getElem?_eq_none
def pP:=@List.mem_cons_self
def xo:=@List.getD_eq_getElem?_getD
def UX:=@List.getElem?_append_left
def RD:=@List.all_eq_true
def Kn:=@List.mem_range
def wP:=@Bool.false_eq_true
def tw:=@wp_region_any
def kN:=@wpOp_step
def ZR:=@List.length_eraseIdx_of_lt
def MC:=@decide_eq_true_eq
def iP:=@Nat.zero_le
def rA:=@Nat.lt_or_ge
abbrev gz:=ByteArray
abbrev gw:=World
abbrev gP:=Value
abbrev kY:=List (ByteArray×ByteArray)
abbrev kO:=List (Option Nat)
abbrev jg:=Option Nat
abbrev jO:=Array Value
@[simp,go_sem] abbrev kJ:ByteArray:=⟨#[]⟩
@[simp,go_sem] abbrev yz:ByteArray:=⟨#[10]⟩
@[simp,go_sem] abbrev lA:ByteArray:=⟨#[100,100]⟩
@[simp,go_sem] abbrev jR:ByteArray:=⟨#[100,105,118]⟩
@[simp,go_sem] abbrev qG:ByteArray:=⟨#[100,108]⟩
@[simp,go_sem] abbrev lB:ByteArray:=⟨#[100,116]⟩
@[simp,go_sem] abbrev iM:ByteArray:=⟨#[102,111,114,109]⟩
@[simp,go_sem] abbrev gU:ByteArray:=⟨#[104,101,97,100]⟩
@[simp,go_sem] abbrev lC:ByteArray:=⟨#[104,105,100,100,101,110]⟩
@[simp,go_sem] abbrev ug:ByteArray:=⟨#[104,114]⟩
@[simp,go_sem] abbrev fY:ByteArray:=⟨#[104,116,109,108]⟩
@[simp,go_sem] abbrev me:ByteArray:=⟨#[104,49]⟩
@[simp,go_sem] abbrev mf:ByteArray:=⟨#[104,50]⟩
@[simp,go_sem] abbrev AL:ByteArray:=⟨#[105]⟩
@[simp,go_sem] abbrev tk:ByteArray:=⟨#[105,109,103]⟩
@[simp,go_sem] abbrev jD:ByteArray:=⟨#[105,110,112,117,116]⟩
@[simp,go_sem] abbrev kK:ByteArray:=⟨#[108,105]⟩
@[simp,go_sem] abbrev jh:ByteArray:=⟨#[109,101,116,97]⟩
@[simp,go_sem] abbrev nO:ByteArray:=⟨#[110,111,116,105,110,59]⟩
@[simp,go_sem] abbrev mY:ByteArray:=⟨#[110,111,116,105,110,69,59]⟩
@[simp,go_sem] abbrev nP:ByteArray:=⟨#[110,111,116,110,105,59]⟩
@[simp,go_sem] abbrev iG:ByteArray:=⟨#[110,111,98,114]⟩
@[simp,go_sem] abbrev gn:ByteArray:=⟨#[111,112,116,103,114,111,117,112]⟩
@[simp,go_sem] abbrev gO:ByteArray:=⟨#[111,112,116,105,111,110]⟩
@[simp,go_sem] abbrev gW:ByteArray:=⟨#[111,98,106,101,99,116]⟩
@[simp,go_sem] abbrev mZ:ByteArray:=⟨#[112]⟩
@[simp,go_sem] abbrev mJ:ByteArray:=⟨#[112,114,101]⟩
@[simp,go_sem] abbrev iY:ByteArray:=⟨#[115,101,108,101,99,116]⟩
@[simp,go_sem] abbrev iR:ByteArray:=⟨#[115,116,121,108,101]⟩
@[simp,go_sem] abbrev iy:ByteArray:=⟨#[116,100]⟩
@[simp,go_sem] abbrev jE:ByteArray:=⟨#[116,101,120,116,97,114,101,97]⟩
@[simp,go_sem] abbrev gr:ByteArray:=⟨#[116,102,111,111,116]⟩
@[simp,go_sem] abbrev iA:ByteArray:=⟨#[116,104]⟩
@[simp,go_sem] abbrev gu:ByteArray:=⟨#[116,104,101,97,100]⟩
@[simp,go_sem] abbrev pD:ByteArray:=⟨#[116,105,109,101,115]⟩
@[simp,go_sem] abbrev nc:ByteArray:=⟨#[116,105,109,101,115,98,59]⟩
@[simp,go_sem] abbrev jp:ByteArray:=⟨#[116,105,116,108,101]⟩
@[simp,go_sem] abbrev ie:ByteArray:=⟨#[116,114]⟩
@[simp,go_sem] abbrev nJ:ByteArray:=⟨#[116,121,112,101]⟩
@[simp,go_sem] abbrev gg:ByteArray:=⟨#[116,97,98,108,101]⟩
@[simp,go_sem] abbrev gq:ByteArray:=⟨#[116,98,111,100,121]⟩
@[simp,go_sem] abbrev oz:ByteArray:=⟨#[117,108]⟩
@[simp,go_sem] abbrev pE:ByteArray:=⟨#[226,139,185,204,184]⟩
@[simp,go_sem] abbrev mw:ByteArray:=⟨#[32,9,10,12]⟩
@[simp,go_sem] abbrev jm:ByteArray:=⟨#[32,9,10,12,47,62]⟩
@[simp,go_sem] abbrev pF:ByteArray:=⟨#[32,9,10,12,47,62,61]⟩
@[simp,go_sem] abbrev mg:ByteArray:=⟨#[32,9,10,12,62]⟩
@[simp,go_sem] abbrev lD:ByteArray:=⟨#[33,100,111,99,116,121,112,101]⟩
@[simp,go_sem] abbrev tz:ByteArray:=⟨#[34]⟩
@[simp,go_sem] abbrev BN:ByteArray:=⟨#[38]⟩
@[simp,go_sem] abbrev sJ:ByteArray:=⟨#[39]⟩
@[simp,go_sem] abbrev yA:ByteArray:=⟨#[45,62]⟩
@[simp,go_sem] abbrev Ej:ByteArray:=⟨#[60]⟩
@[simp,go_sem] abbrev jH:ByteArray:=⟨#[62]⟩
@[simp,go_sem] abbrev lM:ByteArray:=⟨#[78,101,119,76,105,110,101,59]⟩
@[simp,go_sem] abbrev tl:ByteArray:=⟨#[97]⟩
@[simp,go_sem] abbrev Gu:ByteArray:=⟨#[98]⟩
@[simp,go_sem] abbrev gE:ByteArray:=⟨#[98,111,100,121]⟩
@[simp,go_sem] abbrev j3:ByteArray:=⟨#[98,114]⟩
@[simp,go_sem] abbrev hU:ByteArray:=⟨#[98,117,116,116,111,110]⟩
@[simp,go_sem] abbrev iq:ByteArray:=⟨#[99,111,108]⟩
@[simp,go_sem] abbrev gm:ByteArray:=⟨#[99,111,108,103,114,111,117,112]⟩
@[simp,go_sem] abbrev nf:ByteArray:=⟨#[99,111,112,121,115,114,59]⟩
@[simp,go_sem] abbrev gx:ByteArray:=⟨#[99,97,112,116,105,111,110]⟩
abbrev gL (b:Nat):Value:=.pointer (some ⟨b,0,none⟩)
abbrev jF (b k:Nat):Value:=.pointer (some ⟨b,k,none⟩)
abbrev gp (n:Int):Value:=.int .i64 n
abbrev ir (v:Value):Ending:=.returned v
abbrev p8:Ending:=.returned (.tuple #[])
abbrev rh (b n c:Nat):Value:=.slice (some ⟨b,0,none⟩) n c
abbrev jX:Value:=.slice none 0 0
abbrev gJ (c:Array Value) (t:TypeId):Obj:=.cells c t (0,0)
abbrev gI (s:ByteArray):Value:=.string s
section
variable {C c : jO} {E K S : List Nat} {L : List (gz×gP)} {T t tB : TypeId} {W a w w' w1 : gw} {ao : Option Addr} {av kv u v : gP} {b bB bD base bm bs cap e i j k : Nat} {name : gz} {p : gz->Bool} {je x : jg} {xs : kO} {z : Array Bool}
def fW {p : Prop} (h:p):Hid p:=h
structure Kept (S:List Nat) (w w':gw):Prop where
 os:w'.os=w.os
 tape:w'.tape=w.tape
 output:w'.output=w.output
 size:w.heap.size<=w'.heap.size
 block:∀k,k < w.heap.size->k∉S->w'.heap[k]?=w.heap[k]?
def Kept.refl (S:List Nat) (w:gw):Kept S w w:=⟨rfl,rfl,rfl,ij _,λ_ _ _=>rfl⟩
def Kept.trans {b c : gw} (h:Kept S a b) (k:Kept S b c):Kept S a c:=
 ⟨k.os.trans h.os,k.tape.trans h.tape,k.output.trans h.output,jN h.size k.size,λi d f=>(k.block i (lU d h.size) f).trans (h.block i d f)⟩
def Kept.mono {S' : List Nat} (h:Kept S w w') (l:∀k,k∈S->k < w.heap.size->k∈S'):Kept S' w w':=
 ⟨h.os,h.tape,h.output,h.size,λk d g=>h.block k d (λf=>g (l k f d))⟩
def Kept.next {S' : List Nat} {b c : gw} (h:Kept S a b) (k:Kept S' b c) (l:∀x∈S',x∈S\/a.heap.size<=x):Kept S a c:=
 ⟨k.os.trans h.os,k.tape.trans h.tape,k.output.trans h.output,jN h.size k.size,λi d f=>(k.block i (lU d h.size) (λg=>by grind)).trans (h.block i d f)⟩
def Kept.drew (h:Kept S a w):Kept S a w.drew:=⟨h.os,h.tape,h.output,h.size,h.block⟩
def Kept.drewN (h:Kept S a w) (q:Nat):Kept S a (w.drewN q):=⟨h.os,h.tape,h.output,h.size,h.block⟩
def Kept.alloc (h:Kept S a w) (o:Obj):Kept S a (w.alloc o):=
 ⟨h.os,h.tape,h.output,jN h.size (by simp),λk d f=>(Below.heap_alloc w o k (lU d h.size)).trans (h.block k d f)⟩
def Kept.setCell (h:Kept S a w) {p : Addr} (f:p.block∈S\/a.heap.size<=p.block) (u:gP):Kept S a (w.setCell p u):=
 ⟨h.os,h.tape,h.output,by simpa using h.size,λk g l=>by
  have d:k≠p.block:=by
   rintro rfl;rcases f with f|f
   .grind
   .omega
  exact(Below.heap_setCell w p u k d).trans (h.block k g l)⟩
def Kept.grown {d : jg} (h:Kept S a w) (f:w.grownBy w' d) (n:∀k,d=some k->k∈S\/a.heap.size<=k):Kept S a w':=
 ⟨f.os.trans h.os,f.tape.trans h.tape,f.output.trans h.output,jN h.size f.size,λk l o=>by
  have g:some k≠d:=by
   rintro rfl;rcases n k rfl with m|m
   .grind
   .omega
  exact(f.block k (lU l h.size) g).trans (h.block k l o)⟩
def Kept.below (h:Kept S w w') {B : Nat} (d:B<=w.heap.size) (l:∀k∈S,B<=k):Below B w w':=
 ⟨h.os,h.tape,h.output,h.size,λk f=>h.block k (lU f d) (λg=>by grind)⟩
def Kept.cell (h:Kept S w w') {p : Addr} (d:p.block < w.heap.size) (f:p.block∉S):w'.cell? p=w.cell? p:=ZN (w:=w) (h.block p.block d f)
def Kept.at (h:Kept S w w') {o : Obj} (d:w.heap[k]?=some o) (f:k∉S):w'.heap[k]?=some o:=
 (h.block k (jn d) f).trans d
def xR {a : Nat} {g l : jO} {d f : TypeId} {m n : Nat×Nat} (o:w.heap[a]?=some (.cells g d m)) (q:w.heap[b]?=some (.cells l f n)) (h:d≠f):a≠b:=by
 grind
def fZ (w:gw) (o:Obj):(w.alloc o).heap[w.heap.size]?=some o:=by
 show(w.heap.push o)[w.heap.size]?=some o;simp
def Kept.ownsRow (h:Kept S w w') {e : TypeId} {d : Nat} {n : Nat} {xs : List gP} (q:w.ownsRow base e d v n xs) (s:∀k,v.ownBlock=some k->k∉S):w'.ownsRow base e d v n xs:=by
 have⟨h1,l⟩:=q;refine⟨h1,?_⟩;rcases l with l|⟨g,cap,f,rfl,m,o,r⟩
 .grind
 .exact .inr ⟨g,cap,f,rfl,m,(h.at o (s g rfl)),r⟩
section
variable {P:Program} (w:gw)
def jV {w:gw} {base d:Nat} {e:TypeId} {f:Nat} {v:gP} {n:Nat} {xs:List gP} (h:w.ownsRow base e f v n xs) (o:d<=base):w.ownsRow d e f v n xs:=by
 have⟨h1,m⟩:=h;refine⟨h1,?_⟩;rcases m with m|⟨g,cap,l,rfl,q,r⟩
 .grind
 .exact .inr ⟨g,cap,l,rfl,jN o q,r⟩
def Nn {w w':gw} {d:jg} (h:w.grownBy w' none):w.grownBy w' d:=⟨h.os,h.tape,h.output,h.size,λk f _=>h.block k f (by simp)⟩
def zC (base:Nat) (t N e:TypeId) (i:TypeInfo) (z:gP) (d h:Nat) (X:P.underlying t=some (.slice e)) (R:P.info? e=some i) (hz:i.zero=some z)
  (q:i.size=d) (H:i.bytes=h) (J:z.cells.size=d) (I:0 < d)
  (v:gP) (n:Nat) (xs:List gP) (l:w.ownsRow base e d v n xs)
  (a:Addr) (m c:Nat) (f:List gP) (V:f.length=m*d) (o:∀j u,f[j]?=some u->w.cell? (a.add j)=some u) (Z:∀u∈f,u.oneCell'=true)
  (D:n+m<=maxLen) (r:(n+m)*h<=140737488355328) (s:base<=w.heap.size):
  ∃y w',(Builtin.append_ #[t,t] N #[v,.slice (some a) m c]).run P w= .ok y w'/\w'.ownsRow base e d y (n+m) (xs++f)/\w.grownBy w' v.ownBlock/\
   (y.ownBlock=v.ownBlock\/∀k,y.ownBlock=some k->w.heap.size<=k):=by
 rcases l.2 with⟨rfl,rfl⟩|⟨g,cap,a0,rfl,a1,hg,a4,a2,a3,Y⟩
 .have hx:xs=[]:=Xa (by simpa using l.1);subst hx;have⟨y,w',hr,ho,hgr,_⟩:=run_append_own (P:=P) w w.heap.size t N e i z d h X R hz q H J I (jX) 0 [] (oY _ _ _ _) a m c f V o Z D r (ij _);exact⟨y,w',hr,jV ho s,hgr,.inr λk U=>(ho.lt k U).1⟩
 .by_cases A:n+m<=cap
  .have⟨w',hr,ho,hgr⟩:=run_append_fits (P:=P) w base t N e i d X R q g n cap xs l a m c f V o Z A;exact⟨_,w',hr,ho,hgr,.inl rfl⟩
  .have⟨y,w',hr,ho,hgr⟩:=run_append_arg_grows (P:=P) w t N e i z d h X R hz q H J I ⟨g,0,none⟩ n cap xs l.1 (l.cells (g:=g) rfl) a m c f V o (by omega) D r;exact⟨y,w',hr,jV ho s,Nn hgr,.inr λk U=>(ho.lt k U).1⟩
def iL {ops:Array Oper} {q:List Oper} {o:Oper} {a:Act} {Q:Exit->Act->gw->Prop} (R:o.guard=none) (s x:Operand) (t:TypeId)
  (ho:o.op= .call {callee:= .builtin .append,args:=#[s,x],argTypes:=#[t,t]})
  (base:Nat) (e:TypeId) (i:TypeInfo) (z:gP) (d g:Nat) (ht:P.underlying t=some (.slice e)) (Z:P.info? e=some i) (hz:i.zero=some z)
  (A:i.size=d) (N:i.bytes=g) (V:z.cells.size=d) (U:0 < d)
  (v:gP) (n:Nat) (xs:List gP) (hs:a.eval s=v) (H:w.ownsRow base e d v n xs)
  (I:Addr) (m c:Nat) (f:List gP) (hx:a.eval x= .slice (some I) m c) (hl:f.length=m*d) (y:∀j u,f[j]?=some u->w.cell? (I.add j)=some u) (X:∀u∈f,u.oneCell'=true)
  (J:n+m<=maxLen) (l:(n+m)*g<=140737488355328) (r:base<=w.heap.size)
  (h:∀D w',w'.ownsRow base e d D (n+m) (xs++f)->w.grownBy w' v.ownBlock->(D.ownBlock=v.ownBlock\/∀k,D.ownBlock=some k->w.heap.size<=k)->wpList P ops Q q (a.put o.dst D) w'):wpList P ops Q (o::q) a w:=by
 refine wpList_plain R λ_ Y=>?_;have⟨D,w',hr,h2,h3,h4⟩:=zC (P:=P) w base t o.type e i z d g ht Z hz A N V U v n xs H I m c f hl y X J l r;unfold Oper.wp execOp;simp only[ho,resolve,invoke,builtin,RA,Sem.run_pure,Result.andThen_ok,List.map_toArray,yy,List.map_nil,hs,hx,hr];exact Y _ _ (h D w' h2 h3 h4)
end
def jY (s:gz):List gP:=s.data.toList.map λb=>Value.int .u8 b.toNat
def ZX (s:gz):(jY s).length=s.size:=by
 simp[jY]
def Kw (s t:gz):jY (s++t)=jY s++jY t:=by
 simp[jY]
def RV (s:gz):∀u∈jY s,u.oneCell'=true:=by
 intro u d;simp[jY]at d;obtain⟨b,_,rfl⟩:=d;rfl
def fX (h:w.heap[b]?=some (gJ c t)) (j:Nat):w.cell? ⟨b,j,none⟩=c[j]?:=by simp[World.cell?,h]
def gG (h:w.heap[b]?=some (gJ c t)) (j:Nat):w.frozen? ⟨b,j,none⟩=false:=by simp[World.frozen?,h]
def gh (h:w.heap[b]?=some (gJ c t)) (j:Nat) (u:gP):(w.setCell ⟨b,j,none⟩ u).heap[b]?=some (gJ (c.setIfInBounds j u) t):=by
 have d:=jn h;simp only[World.setCell]
 grind
def gH {e : TypeId} {d : Nat} {n : Nat} {xs : List gP} (h:w.ownsRow base e d v n xs):∃ao cap,v= .slice ao n cap:=by
 rcases h.2 with⟨rfl,l⟩|⟨g,cap,f,rfl,_⟩
 all_goals grind
def jq (g j:Nat):(⟨g,0,none⟩:Addr).add j=⟨g,j,none⟩:=by unfold Addr.add;grind
def ptr (x:jg):Option Addr:=x.map λk=>⟨k,0,none⟩
abbrev kh (x:jg):gP:= .pointer (ptr x)
def iB (xs:kO) (n:Int):jg:=if 0<=n/\n < xs.length then xs.getD n.toNat none else none
structure wW (base b j:Nat) (tB:TypeId) (C:jO) (v:gP) (xs:kO) (w:gw):Prop where
 iw:w.heap[b]?=some (gJ C tB)
 cell:C[j]?=some v
 row:w.ownsRow base 57 1 v xs.length (xs.map kh)
 ne:tB≠57
 le:xs.length<=4096
def wW.at (h:wW base b j tB C v xs w):w.cell? ⟨b,j,none⟩=some v:=by rw[fX h.iw];exact h.cell
def acw (base b j:Nat) (tB:TypeId) (C:jO) (v:gP) (xs:kO) (w:gw) (h:wW base b j tB C v xs w):
  Calls prog 251 #[jF b j] w λe w'=>e=ir (gp xs.length)/\w'=w:=by
 have d:=h.at;obtain⟨ao,cap,rfl⟩:=gH h.row;have H:=fW h;clear h;go_enter func251,ntmps251;go_wp2;go_ret;simp
def YJ (base b j:Nat) (tB:TypeId) (C:jO) (v:gP) (xs:kO) (n:Int) (w:gw) (h:wW base b j tB C v xs w):
  Calls prog 229 #[jF b j,gp n] w λe w'=>e=ir (kh (iB xs n))/\w'=w:=by
 have s:=h.at;have q:=h.le
 by_cases D:n < 0
 .obtain⟨ao,cap,rfl⟩:=gH h.row;have l:iB xs n=none:=by unfold iB;rw[gR (by omega)]
  rw[l];go_enter func229,ntmps229;go_wp2;go_ret;exact⟨rfl,rfl⟩
 by_cases H:(xs.length:Int)<=n
 .obtain⟨ao,cap,rfl⟩:=gH h.row;have l:iB xs n=none:=by unfold iB;rw[gR (by omega)]
  rw[l];go_enter func229,ntmps229;go_wp2;go_ret;exact⟨rfl,rfl⟩
 obtain⟨k,rfl⟩:∃k:Nat,n=k:=⟨n.toNat,by omega⟩;have o:k < xs.length:=by omega
 have l:iB xs k=xs[k]:=by unfold iB;rw[gF (by omega)];simp[o]
 rw[l];rcases h.row.2 with⟨_,A⟩|⟨g,cap,m,rfl,_,f,r,_,_,d⟩
 .omega
 have y:w.cell? ⟨g,k,none⟩=some (kh xs[k]):=by
  rw[fX f];have:(m.toList.take (xs.length*1))[k]?=some (kh xs[k]):=by rw[d];simp[o]
  rw[Eh]at this;split at this
  .grind
  .omega
 go_enter func229,ntmps229;go_wp2;go_ret;simp
def posOf (xs:kO) (x:jg):Int:=if xs.idxOf x < xs.length then (xs.idxOf x:Int)else -1
def tm (w:gw) (x:jg):Prop:=∀k,x=some k->∃c,w.heap[k]?=some (gJ c 142)
def TY:(prog.info? 142).map (·.size)=some 4:=by kernel_rfl
def Iq:prog.underlying 57=some (.pointer (prog.pointee 57)):=by kernel_rfl
def B9 {y : jg} (l:tm w x) (m:tm w y):
  (binOp .eql 57 (.pointer (ptr x)) (.pointer (ptr y))).run prog w= .ok (.bool (decide (x=y))) w:=by
 obtain⟨j,f,g⟩:=Option.map_eq_some_iff.1 TY;cases x with
 |none=>
  cases y with
  |none=>exact run_eql_pointer_nil (P:=prog) w 57 none Iq
  |some b=>
   have h:∀d:Nat,(Op.equalIn (d+1) 57 (.pointer none) (gL b)).run prog w= .ok false w:=λd=>by
    simp[Op.equalIn,pO underlying57]
   show(binOp .eql 57 (.pointer none) (gL b)).run prog w= .ok (.bool false) w;simp only[binOp];simp[Op.equal,Op.maxDepth,h 9999]
 |some a=>
  cases y with
  |none=>exact run_eql_pointer_nil (P:=prog) w 57 (some ⟨a,0,none⟩) Iq
  |some b=>
   by_cases h:a=b
   .subst h;rw[vn rfl];exact run_eql_ptr_same (P:=prog) w (⟨a,0,none⟩:Addr) underlying57 f
   .have⟨ca,ha⟩:=l a rfl;have⟨cb,hb⟩:=m b rfl;rw[xm (by grind)];exact run_eql_ptr_other (P:=prog) w (a:=⟨a,0,none⟩) (b:=⟨b,0,none⟩) underlying57 f (by omega) (by simp) ha hb
def acN (v:gP) (xs:kO) (w:gw):Prop:=((xs=[]/\∃ao cap,v= .slice ao 0 cap)\/∃g cap,v=rh g xs.length cap/\∀k,(hk:k < xs.length)->w.cell? ⟨g,k,none⟩=some (kh xs[k]))/\∀x∈xs,tm w x
def aaE (o:w.ownsRow base 57 1 v xs.length (xs.map kh)) (l:∀x∈xs,tm w x):acN v xs w:=by
 refine⟨?_,l⟩;rcases o.2 with⟨rfl,q⟩|⟨g,cap,h,rfl,_,f,n,_,_,d⟩
 .grind
 .refine .inr ⟨g,cap,rfl,λk m=>?_⟩;rw[fX f];have:(h.toList.take (xs.length*1))[k]?=some (kh xs[k]):=by rw[d];simp[m]
  grind
def Y9 (h:k < xs.length) (o:xs[k]=x) (f:∀j,j < k->xs[j]?≠some x):posOf xs x=k:=by
 have q:xs.idxOf x=k:=by
  have n:x∈xs:=o▸uP h;have m:=List.idxOf_lt_length_iff.2 n;have g:¬xs.idxOf x < k:=λd=>f _ d (by grind);have l:¬k < xs.idxOf x:=λd=>by
   have:=List.not_of_lt_findIdx (p:=(·==x)) (xs:=xs) (i:=k) (by simpa [List.idxOf]using d)
   grind
  omega
 grind[posOf]
def Za (d:∀j,j < xs.length->xs[j]?≠some x):posOf xs x= -1:=by
 grind[posOf]
def EI (v:gP) (xs:kO) (x:jg) (w:gw) (h:acN v xs w) (m:tm w x) (N:xs.length<=4096):
  Calls prog 254 #[v,kh x] w λe w'=>e=ir (gp (posOf xs x))/\w'=w:=by
 rcases h with⟨⟨rfl,ao,cap,rfl⟩|⟨g,cap,rfl,r⟩,A⟩
 .go_enter func254,ntmps254;go_wp2;refine vo 1 ?_;rw[oW];go_wp2;go_ret;simp[posOf]
 .have y:=r;have H:=m;clear r m;have l:∀k,(n:k < xs.length)->(binOp .eql 57 (.pointer (ptr x)) (.pointer (ptr xs[k]))).run prog w= .ok (.bool (decide (x=xs[k]))) w:=λk n=>B9 H (A _ (uP n));have D:=fW l;clear l;go_enter func254,ntmps254;go_wp2
  go_loopw [8] (λi wr=>∃k:Nat,k<=xs.length/\i=gp k/\wr=w/\∀j,j < k->xs[j]?≠some x) (λi _=>xs.length - (intOf i).toNat)
  case atStart=>grind
  case round=>
   obtain⟨k,n,rfl,rfl,q⟩:=hrel
   by_cases d:k < xs.length
   .have R:=y k d;have s:=D k d
    by_cases f:x=xs[k]
    .have o:=fW (Y9 d f.symm q);rw[vn f]at s;clear f;go_wp2;go_ret;exact⟨by rw[o.out];rfl,rfl⟩
    .rw[xm f]at s;have I:=f;clear f;go_wp2;go_roundw
     case rel=>
      refine⟨k+1,by omega,by go_num,by simp,λj J=>?_⟩
      grind
     case measure=>simp[intOf];omega
   .have o:=fW (Za (xs:=xs) (x:=x) (λj J=>q j (by omega)));go_wp2;go_ret;exact⟨by rw[o.out];rfl,rfl⟩
def jW:jO->Nat->List gP->jO
 |c,_,[]=>c
 |c,o,v::r=>jW (c.setIfInBounds o v) (o+1) r
def kU:∀(d:List gP) (c:jO) (o:Nat),(jW c o d).size=c.size
 |[],_,_=>rfl
 |v::r,c,o=>by rw[jW,kU r];simp
def nI:∀(d:List gP) (c:jO) (o:Nat),o+d.length<=c.size->(jW c o d).toList=c.toList.take o++d++c.toList.drop (o+d.length)
 |[],c,o,_=>by simp[jW]
 |v::r,c,o,h=>by
  have f:o+1+r.length<=(c.setIfInBounds o v).size:=by simp at h|-;omega
  rw[jW,nI r _ _ f];simp only[qd]at h;have e1:(c.setIfInBounds o v).toList=c.toList.set o v:=by simp
  rw[e1];have g:o < c.toList.length:=by simp;omega
  rw[ZL (by grind),List.take_set_of_le (ij _),List.drop_set_of_lt (by omega)]
  grind
def nF:∀(d:List gP) (w:gw) (g:Nat) (c:jO) (t:TypeId) (m:Nat×Nat) (o:Nat),w.heap[g]?=some (.cells c t m)->(w.setCells g o d).heap[g]?=some (.cells (jW c o d) t m)
 |[],_,_,_,_,_,_,h=>h
 |v::r,w,g,c,t,m,o,h=>by
  rw[World.setCells,jW];refine nF r _ g _ t m (o+1) ?_;have f:=jn h;rw[AJ f]at h;have l:=jK h;simp only[World.setCell]
  grind
def Kept.setCells (d:b∈S\/a.heap.size<=b):∀(f:List gP) (o:Nat) {w:gw},Kept S a w->Kept S a (w.setCells b o f)
 |[],_,_,h=>h
 |v::r,o,w,h=>by rw[World.setCells];exact Kept.setCells d r (o+1) (h.setCell (p:=⟨b,o,none⟩) d v)
def aaQ:(prog.info? 57).map (λi=>(i.zero,i.size,i.bytes))=some (some (.pointer none),1,8):=by kernel_rfl
def XW {l : List gP} {n : Nat} (d:i < j) (f:j<=n) (g:n<=l.length):
  ((l.take i++(l.take n).drop j++l.drop (i+(n - j))).take (n - (j - i)))=(l.take n).take i++(l.take n).drop j:=by
 have e:(l.take i++(l.take n).drop j).length=n - (j - i):=by simp;omega
 grind
def ac8 (g cap i j n:Nat) (f:jO) (w:gw) (o:w.heap[g]?=some (gJ f 57)) (a4:n<=cap) (X:f.size=cap) (hi:i < j) (hj:j<=n) (a3:n<=4096)
  (h1:∀u∈f.toList.take n,u.oneCell'=true):
  Calls prog 255 #[rh g n cap,gp i,gp j] w λe w'=>e=ir (rh g (n - (j - i)) cap)/\
   ∃q,w'.heap[g]?=some (gJ q 57)/\q.size=cap/\q.toList.take (n - (j - i))=(f.toList.take n).take i++(f.toList.take n).drop j/\Kept [g] w w':=by
 obtain⟨i0,R,a5,Z,a6⟩:=vp aaQ;obtain⟨d,m⟩:∃d,d=(f.toList.take n).drop j:=⟨_,rfl⟩;have r:d.length=n - j:=by rw[m];simp;omega
 have I:∀t u,d[t]?=some u->f[j+t]?=some u:=by
  intro t u D;rw[m,UR,Eh]at D;split at D
  .grind
  .cases D
 obtain⟨A,hA,J⟩:∃A:Addr,(if cap=j then some (⟨g,0,none⟩:Addr)else some ⟨g,j,none⟩)=some A/\Hid (∀t u,d[t]?=some u->w.drew.cell? (A.add t)=some u):=by
  by_cases h:cap=j
  .refine⟨⟨g,0,none⟩,by simp[h],λt u D=>?_⟩
   grind
  .refine⟨⟨g,j,none⟩,by simp[h],λt u D=>?_⟩;rw[show(⟨g,j,none⟩:Addr).add t=⟨g,j+t,none⟩from by unfold Addr.add;simp];exact(fX o _).trans (I t u D)
 have s1:Hid (d.length=(n - j)*1):=by rw[Kh];exact r
 have s2:Hid (∀u∈d,u.oneCell'=true):=λu D=>h1 u (Rt (m▸D));have s3:Hid (∀t,t < d.length->(w.drew.cell? ⟨g,0+i*1+t,none⟩).isSome=true/\w.drew.frozen? ⟨g,0+i*1+t,none⟩=false):=by
  intro t Y;rw[r]at Y;refine⟨?_,gG o _⟩;show(w.cell? _).isSome=true;rw[fX o,AJ (by omega)];rfl
 obtain⟨y,s⟩:∃y,y=w.drew.setCells g (0+i*1) d:=⟨_,rfl⟩;have H:y.heap[g]?=some (gJ (jW f (0+i*1) d) 57):=by rw[s];exact nF d w.drew g f _ _ _ o
 have N:Kept [g] w y:=by rw[s];exact Kept.setCells (.inl (by simp)) d _ (Kept.refl _ _).drew
 have a0:∀ty,(Builtin.clear_ #[151] ty #[.slice (some ⟨g,i+(n - j),none⟩) (n - (i+(n - j))) (cap - (i+(n - j)))]).run prog y= .ok (.tuple #[]) (y.setCells g (i+(n - j)) (List.replicate (n - (i+(n - j))) (.pointer none))):=
  λty=>Lib.run_clear_slice y _ _ ty _ underlying151 Tryz.zeroValue57 rfl rfl g (i+(n - j)) _ _ (by omega) (λt Y=>by rw[fX H,AJ (by rw[kU];omega)];rfl) (λt Y=>gG H _)
 have HB:=nF (List.replicate (n - (i+(n - j))) (Value.pointer none)) y g _ _ _ (i+(n - j)) H;have HK:=Kept.setCells (S:=[g]) (a:=w) (b:=g) (.inl (by simp)) (List.replicate (n - (i+(n - j))) (Value.pointer none)) (i+(n - j)) N;have U:(jW f (0+i*1) d).toList=f.toList.take (0+i*1)++d++f.toList.drop (0+i*1+d.length):=nI _ _ _ (by omega);have V:=nI (List.replicate (n - (i+(n - j))) (Value.pointer none)) (jW f (0+i*1) d) (i+(n - j)) (by rw[kU];grind);have HF:(jW (jW f (0+i*1) d) (i+(n - j)) (List.replicate (n - (i+(n - j))) (Value.pointer none))).toList.take (n - (j - i))=(f.toList.take n).take i++(f.toList.take n).drop j:=by
  rw[V,BI,ZM (by simp[kU];omega),U,r,m];rw[US,Nat.min_eq_left (by omega)];have:=XW (l:=f.toList) hi hj (by grind)
  simpa using this
 have HW:=fW s;have a1:i<=cap:=by omega
 have a2:j<=cap:=by omega
 clear s;go_enter func255,ntmps255;go_wp2_with fail
 go_region_law (refine step_append_room rfl (.tmp 22) (.tmp 25) 151 rfl 57 i0 1 underlying151 R Z g 0 i cap (by simp[Act.eval,Act.put]) A (n - j) (cap - j) d (by simp[Act.eval,Act.put]) s1 J s2 (by omega) s3 ?_;rw[<-HW.out])
 go_wp2;go_ret;exact⟨by rw[show n - (j - i)=i+(n - j) by omega];rfl,_,HB,by rw[kU,kU];exact X,HF,HK⟩
def adm:(prog.info? 57).map (λi=>(i.zero,i.size,i.bytes))=some (some (.pointer none),1,8):=by kernel_rfl
section
variable {T S F O B:Nat} {z:gP}
end
def wW.VL (h:wW base b j tB C v xs w) (d:∀x∈xs,tm w x):acN v xs w:=aaE h.row d
def wW.np (h:wW base b j tB C v xs w):v.ownBlock≠some b:=by
 intro d;rcases h.row.2 with⟨e,_⟩|⟨g,cap,f,e,_,l,_⟩
 .rw[e]at d;cases d
 .rw[e]at d;obtain rfl:=jK d;exact xR l h.iw (xn h.ne) rfl
def row_one (xs:kO):∀u∈xs.map kh,u.oneCell'=true:=by
 intro u d;obtain⟨x,_,rfl⟩:=List.mem_map.1 d;rfl
def oA (base b j:Nat) (tB:TypeId) (C:jO) (v:gP) (ys:kO) (w w':gw):Prop:=
 ∃d,wW base b j tB (C.setIfInBounds j d) d ys w'/\Kept (b::v.ownBlock.toList) w w'/\(d.ownBlock=v.ownBlock\/∀k,d.ownBlock=some k->w.heap.size<=k)
def sV (h:C[j]?=some v):j < C.size:=(Array.getElem?_eq_some_iff.1 h).1
def YK (base b j:Nat) (tB:TypeId) (C:jO) (v:gP) (xs:kO) (w:gw) (h:wW base b j tB C v xs w):
  Calls prog 160 #[jF b j] w λe w'=>e=ir (kh (iB xs ((xs.length:Int) - 1)))/\w'=w:=by
 have f:=h.at;have d:=h.le;obtain⟨ao,cap,rfl⟩:=gH h.row;have H:=YJ base b j tB C _ xs ((xs.length:Int) - 1) w h;go_enter func160,ntmps160
 go_wp21
 refine H.mono ?_;rintro e w' ⟨rfl,rfl⟩;go_wp2;go_ret;simp
def acv (base b j:Nat) (tB:TypeId) (C:jO) (v:gP) (xs:kO) (x:jg) (w:gw) (h:wW base b j tB C v xs w) (l:∀x∈xs,tm w x) (n:tm w x):
  Calls prog 303 #[jF b j,kh x] w λe w'=>e=ir (.bool (decide (x∈xs)))/\w'=w:=by
 have o:=h.at;have m:=h.le;have g:Calls prog 333 #[v,kh x] w λe w'=>e=ir (.bool (decide (x∈xs)))/\w'=w:=by
  have H:=EI v xs x w (h.VL l) n h.le;have f:decide (0<=posOf xs x)=decide (x∈xs):=by
   unfold posOf
   by_cases s:x∈xs
   .grind
   .grind
  have d:=fW f;clear f;generalize posOf xs x=q at H d;generalize decide (x∈xs)=r at d|-;go_enter func333,ntmps333
  go_wp21
  refine H.mono ?_;rintro e w' ⟨rfl,rfl⟩;go_wp2;go_ret;exact⟨by rw[<-d.out];rfl,rfl⟩
 obtain⟨ao,cap,rfl⟩:=gH h.row;have H:=g;go_enter func303,ntmps303
 go_wp21
 refine H.mono ?_;rintro e w' ⟨rfl,rfl⟩;go_wp2;go_ret;simp
def NB (base b j:Nat) (tB:TypeId) (C:jO) (v:gP) (xs:kO) (x:jg) (w:gw) (h:wW base b j tB C v xs w) (f:∀x∈xs,tm w x) (m:tm w x):
  Calls prog 227 #[jF b j,kh x] w λe w'=>e=ir (kh (iB xs (posOf xs x - 1)))/\w'=w:=by
 have n:=h.at;have g:=h.le;have l: -1<=posOf xs x/\posOf xs x<=4096:=by unfold posOf;split<;>omega
 have⟨hp1,hp2⟩:=l;have d:=EI v xs x w (h.VL f) m h.le;obtain⟨ao,cap,rfl⟩:=gH h.row;have H:=YJ base b j tB C _ xs (posOf xs x - 1) w h;generalize posOf xs x=q at H d hp1 hp2|-;go_enter func227,ntmps227
 go_wp21
 refine d.mono ?_;rintro e w' ⟨rfl,rfl⟩
 go_wp21
 refine H.mono ?_;rintro e w' ⟨rfl,rfl⟩;go_wp2;go_ret;simp
def YL (base b j:Nat) (tB:TypeId) (C:jO) (v:gP) (xs:kO) (x:jg) (w:gw) (h:wW base b j tB C v xs w) (hl:xs.length < 4096) (hb:base<=w.heap.size):
  Calls prog 253 #[jF b j,kh x] w λe w'=>e=p8/\oA base b j tB C v (xs++[x]) w w':=by
 have⟨i0,hi,hz0,hz1,hz2⟩:=vp adm;have c1:=h.at;have X:=h.np;obtain⟨ao,cap,rfl⟩:=gH h.row;have H:=fW h;clear h;have f:Kept [] w (w.alloc (.cells #[kh x] 57)):=(Kept.refl _ _).alloc _;have Y:=f.ownsRow H.row (λ_ _=>by simp);have b1:=f.at H.iw (by simp);have I:=fZ w (gJ #[kh x] 57);have y:=fW I;clear I;go_enter func253,ntmps253;go_wp2_with (at_builtin;refine iL _ rfl _ _ 151 rfl base 57 i0 (.pointer none) 1 8 underlying151 hi hz0 hz1 hz2 rfl (by decide) (.slice ao xs.length cap) xs.length (xs.map kh) rfl Y ⟨w.heap.size,0,none⟩ 1 1 [kh x] rfl rfl (λk u r=>by rw[jq,fX y.out,<-r];simp) (λu r=>by simp at r;subst r;rfl) (by unfold maxLen;omega) (by omega) (by simp;omega) ?_);intro v' s d l A;have D:Kept (Value.slice ao xs.length cap).ownBlock.toList w s:=(f.mono (by simp)).grown l (λk n=> .inl (by grind));have q:s.heap[b]?=some (gJ C tB):=D.at H.iw (by grind);have⟨ao',cap',hv⟩:=gH d;subst hv;have d1:s.cell? ⟨b,j,none⟩=some (.slice ao xs.length cap):=by rw[fX q];exact H.cell
 have d2:=gG q j;have J:=gh q j (.slice ao' (xs.length+1) cap');have o:(Value.slice ao' (xs.length+1) cap').ownBlock≠some b:=by
  intro n;rcases d.2 with⟨e,_⟩|⟨g,cap,U,e,_,V,_⟩
  .omega
  .rw[e]at n;obtain rfl:=jK n;exact xR V q (xn H.ne) rfl
 have Z:=yx (a:=⟨b,j,none⟩) d o (.slice ao' (xs.length+1) cap');have N:Kept (b::(Value.slice ao xs.length cap).ownBlock.toList) w (s.setCell ⟨b,j,none⟩ (.slice ao' (xs.length+1) cap')):=(D.mono (λk n _=>oX _ n)).setCell (.inl (by simp)) _;have m:(Value.slice ao' (xs.length+1) cap').ownBlock=(Value.slice ao xs.length cap).ownBlock\/∀k,(Value.slice ao' (xs.length+1) cap').ownBlock=some k->w.heap.size<=k:=by
  rcases A with e|e
  .grind
  .grind
 have R:=m;go_wp2;go_end0;refine⟨rfl,_,⟨J,?_,?_,H.ne,by grind⟩,N,R⟩
 .simp[sV H.out.cell]
 grind
def acx (base b j:Nat) (tB:TypeId) (C:jO) (v:gP) (xs:kO) (w:gw) (h:wW base b j tB C v xs w):
  Calls prog 165 #[jF b j] w λe w'=>e=ir (kh (iB xs ((xs.length:Int) - 1)))/\oA base b j tB C v xs.dropLast w w':=by
 have s:=YK base b j tB C v xs w h;have Y:=h.at;have J:=h.le;have o:=h.np;obtain⟨ao,cap,rfl⟩:=gH h.row;have U:xs.length<=cap:=by
  rcases h.row.2 with⟨e,A⟩|⟨g,d,f,e,_,_,n,_⟩
  .omega
  .grind
 obtain⟨m,N⟩:∃m:Nat,m=xs.length - 1:=⟨_,rfl⟩;have R:max (0:Int) ((xs.length:Int) - 1)=(m:Int):=by omega
 have Z:=gG h.iw j;have y:oA base b j tB C (.slice ao xs.length cap) xs.dropLast w (w.drew.setCell ⟨b,j,none⟩ (.slice ao m cap)):=by
  have V:(w.drew.setCell ⟨b,j,none⟩ (.slice ao m cap)).ownsRow base 57 1 (.slice ao m cap) xs.dropLast.length (xs.dropLast.map kh):=by
   have q:w.ownsRow base 57 1 (.slice ao m cap) xs.dropLast.length (xs.dropLast.map kh):=by
    refine⟨by simp,?_⟩;rcases h.row.2 with⟨e,A⟩|⟨g,d,f,e,l,D,n,H,I,r⟩
    .grind
    .injection e with e1 e2 e3;refine .inr ⟨g,cap,f,by grind,l,D,by grind,by omega,by omega,?_⟩;rw[Kh]at r|-;rw[List.length_dropLast,List.map_dropLast,<-r,ZO,US]
     grind
   refine yx (a:=⟨b,j,none⟩) (w:=w.drew) q ?_ _;have:(Value.slice ao m cap).ownBlock=(Value.slice ao xs.length cap).ownBlock:=by cases ao<;>rfl
   rw[this];exact o
  refine⟨_,⟨gh (w:=w.drew) h.iw j _,?_,V,h.ne,by grind⟩,(Kept.refl _ w).drew.setCell (.inl (by simp)) _,.inl (by cases ao<;>rfl)⟩;simp[sV h.cell]
 clear h N;go_enter func165,ntmps165
 go_wp21
 refine s.mono ?_;rintro e w' ⟨rfl,X⟩;subst X
 go_wp21
 go_region;go_wp2;go_ret;exact⟨rfl,y⟩
def sC (xs:kO) (x:jg):(x∉xs/\posOf xs x= -1)\/∃n:Nat,posOf xs x=n/\n < xs.length/\n=xs.idxOf x/\xs[n]?=some x:=by
 unfold posOf
 by_cases f:x∈xs
 .have d:=List.idxOf_lt_length_iff.2 f;rw[gF d];exact .inr ⟨_,rfl,d,rfl,by rw[rq d];simp⟩
 .rw[gR (λd=>f (List.idxOf_lt_length_iff.1 d))];exact .inl ⟨f,rfl⟩
def Dx {n : Nat} (d:n=xs.idxOf x):xs.take n++xs.drop (n+1)=xs.erase x:=by
 rw[<-List.eraseIdx_eq_take_drop_succ,d,List.erase_eq_eraseIdx_of_idxOf rfl]
def oA.refl (h:wW base b j tB C v xs w):oA base b j tB C v xs w w:=by
 have e:C.setIfInBounds j v=C:=by
  have:=h.cell;apply Array.ext_getElem?;intro i
  by_cases d:j=i
  .grind
  .grind
 exact⟨v,by grind,Kept.refl _ _,.inl rfl⟩
def Ai (base b j:Nat) (tB:TypeId) (C:jO) (v:gP) (xs:kO) (x:jg) (w:gw) (h:wW base b j tB C v xs w) (he:∀x∈xs,tm w x) (hx:tm w x):
  Calls prog 168 #[jF b j,kh x] w λe w'=>e=p8/\oA base b j tB C v (xs.erase x) w w':=by
 have c1:=h.at;have y:=EI v xs x w (h.VL he) hx h.le;rcases sC xs x with⟨U,V⟩|⟨n,V,a0,hn,_⟩
 .have HF:=oA.refl h;rw[List.erase_of_not_mem U];obtain⟨ao,cap,rfl⟩:=gH h.row;rw[V]at y;clear h;go_enter func168,ntmps168;go_wp2_with fail;refine y.mono ?_;rintro e w' ⟨rfl,Y⟩;subst Y;go_wp2;go_end0
  grind
 .have r:=h.np;have N:=h.le;rcases h.row.2 with⟨_,e0⟩|⟨g,cap,D,rfl,I,o,R,hm,s,d⟩
  .omega
  rw[Kh]at s d;have HD:=ac8 g cap n (n+1) xs.length D w o R s (by omega) (by omega) N (by rw[d];exact row_one xs);rw[show((n+1:Nat):Int)=(n:Int)+1 by omega,show xs.length - (n+1 - n)=xs.length - 1 by omega]at HD;have HN:=fW hn;clear hn;have H:=fW h;have HT:=fW d;rw[V]at y;clear h d;go_enter func168,ntmps168;go_wp2_with fail;refine y.mono ?_;rintro e w' ⟨rfl,Y⟩;subst Y;go_wp2_with fail;refine HD.mono ?_;rintro e Z ⟨rfl,m,J,a1,X,q⟩;have A:=q.at H.iw (by intro l;exact r (by simp at l;rw[l];rfl));have d1:Z.cell? ⟨b,j,none⟩=some (rh g xs.length cap):=by rw[fX A];exact H.cell
  have d2:=gG A j;have H3:=gh A j (rh g (xs.length - 1) cap);have f:(xs.erase x).length=xs.length - 1:=by rw[<-Dx HN.out];simp;omega
  have r2:Z.ownsRow base 57 1 (rh g (xs.length - 1) cap) (xs.erase x).length ((xs.erase x).map kh):=by
   refine⟨by simp,.inr ⟨g,cap,m,by rw[f],I,J,by omega,hm,by omega,?_⟩⟩;rw[Kh,f,X,HT.out,<-Dx HN.out,ru,List.map_take,List.map_drop]
  have H4:=yx (a:=⟨b,j,none⟩) r2 r (rh g (xs.length - 1) cap);have H5:Kept (b::(rh g xs.length cap).ownBlock.toList) w' (Z.setCell ⟨b,j,none⟩ (rh g (xs.length - 1) cap)):=(q.mono (λk hk _=>by simp at hk;subst hk;simp[Value.ownBlock])).setCell (.inl (by simp)) _;have HL:=fW f;clear f;go_wp2;go_end0;exact⟨rfl,_,⟨H3,by simp[sV H.out.cell],H4,H.ne,by grind⟩,H5,.inl rfl⟩
def pM (xs:kO) (x y:jg):kO:=if x∈xs then xs.set (xs.idxOf x) y else xs
def jb (xs:kO) (x y:jg):kO:=if x∈xs then xs.take (xs.idxOf x+1)++[y]++xs.drop (xs.idxOf x+1)else xs
def og (xs:kO) (x:jg):kO:=((xs.reverse.dropWhile (·≠x)).tail).reverse
def oA.trans {v' : gP} {ys h : kO} {g : gw}
  (m:wW base b j tB (C.setIfInBounds j v') v' ys w1) (f:Kept (b::v.ownBlock.toList) w w1) (n:v'.ownBlock=v.ownBlock\/∀k,v'.ownBlock=some k->w.heap.size<=k)
  (l:oA base b j tB (C.setIfInBounds j v') v' h w1 g):oA base b j tB C v h w g:=by
 have⟨v2,L2,k2,f2⟩:=l;refine⟨v2,by simp_all,f.next k2 ?_,?_⟩
 .grind
 .rcases f2 with e|e
  .grind
  .exact .inr λk d=>jN f.size (e k d)
def EN (base b j:Nat) (tB:TypeId) (C:jO) (v:gP) (xs:kO) (x y:jg) (w:gw) (h:wW base b j tB C v xs w) (Z:∀x∈xs,tm w x) (hx:tm w x):
  Calls prog 258 #[jF b j,kh x,kh y] w λe w'=>e=p8/\oA base b j tB C v (pM xs x y) w w':=by
 have c1:=h.at;have o:=EI v xs x w (h.VL Z) hx h.le;rcases sC xs x with⟨I,N⟩|⟨n,N,a0,D,X⟩;have U:=oA.refl h;have R:pM xs x y=xs:=by unfold pM;rw[gR I]
 rw[R];obtain⟨ao,cap,rfl⟩:=gH h.row;rw[N]at o
 rotate_left
 have J:=h.np;have A:=h.le;have R:pM xs x y=xs.set n y:=by unfold pM;rw[gF (tu X),<-D]
 rw[R];rcases h.row.2 with⟨_,e0⟩|⟨g,cap,l,rfl,r,d,H,hm,m,f⟩
 .omega
 rw[Kh]at m f;have s:g≠b:=λe=>J (by rw[e];rfl);have V:∃u,w.cell? ⟨g,n,none⟩=some u:=⟨l[n]'(by omega),by rw[fX d];simp⟩;have⟨u,V⟩:=V;have d2:=gG d n;have U:oA base b j tB C (rh g xs.length cap) (xs.set n y) w (w.setCell ⟨g,n,none⟩ (kh y)):=by
  have q:(w.setCell ⟨g,n,none⟩ (kh y)).heap[b]?=some (gJ C tB):=by rw[Below.heap_setCell w ⟨g,n,none⟩ _ b (xn s)];exact h.iw
  have Y:wW base b j tB C (rh g xs.length cap) (xs.set n y) (w.setCell ⟨g,n,none⟩ (kh y)):=by
   refine⟨q,h.cell,⟨by simp,.inr ⟨g,cap,_,by simp,r,gh d n (kh y),by simpa using H,hm,by simpa using m,?_⟩⟩,h.ne,by simpa using A⟩;have:(l.setIfInBounds n (kh y)).toList=l.toList.set n (kh y):=by simp
   rw[this,List.length_set,Kh,List.take_set,f,List.map_set]
  have⟨v',L',k',f'⟩:=oA.refl Y;exact⟨v',L',(((Kept.refl _ w).setCell (p:=⟨g,n,none⟩) (.inl (by simp[Value.ownBlock])) _).trans k'),by simpa using f'⟩
 have HN:=fW D;rw[N]at o;clear D
 all_goals
  go_enter func258,ntmps258
  go_wp21
  refine o.mono ?_;rintro e w' ⟨rfl,hw⟩;subst hw;go_wp2;go_end0;exact⟨rfl,U⟩
def F7 (base b j:Nat) (tB:TypeId) (C:jO) (v:gP) (xs:kO) (x y:jg) (w:gw) (h:wW base b j tB C v xs w) (he:∀x∈xs,tm w x) (hx:tm w x) (hl:xs.length < 4096) (hb:base<=w.heap.size):
  Calls prog 360 #[jF b j,kh x,kh y] w λe w'=>e=p8/\oA base b j tB C v (jb xs x y) w w':=by
 have c1:=h.at;have o:=EI v xs x w (h.VL he) hx h.le;rcases sC xs x with⟨J,R⟩|⟨n,R,a4,I,HX⟩
 .have r:=oA.refl h;have U:jb xs x y=xs:=by unfold jb;rw[gR J]
  rw[U];obtain⟨ao,cap,rfl⟩:=gH h.row;rw[R]at o;clear h;go_enter func360,ntmps360
  go_wp21
  refine o.mono ?_;rintro e w' ⟨rfl,V⟩;subst V;go_wp2;go_end0;exact⟨rfl,r⟩
 .have N:=h.np;have a3:=h.le;have U:jb xs x y=xs.take (n+1)++[y]++xs.drop (n+1):=by unfold jb;rw[gF (tu HX),<-I]
  rw[U];have d:Kept [] w (w.alloc (.cells #[kh y] 57)):=(Kept.refl _ _).alloc _;have v1:=fZ w (gJ #[kh y] 57);have a1:(w.alloc (gJ #[kh y] 57)).heap.size=w.heap.size+1:=by simp
  have a5:=h.row.lt;have X:=ins_B (.inl ⟨rfl,rfl,rfl,rfl,rfl,rfl⟩) base xs.length (n+1) w.heap.size v (kh y) (xs.map kh) (w.alloc (gJ #[kh y] 57)) (d.ownsRow h.row (λ_ _=>by simp)) v1 (λe=>by grind) rfl (row_one xs) (by omega) (by omega) (by omega);rw[show((n+1:Nat):Int)=(n:Int)+1 by omega]at X;have a0:=d.at h.iw (by simp);obtain⟨ao,cap,rfl⟩:=gH h.row;have H:=fW h;have HN:=fW I;rw[R]at o;clear h I;go_enter func360,ntmps360
  go_wp21
  refine o.mono ?_;rintro e w' ⟨rfl,V⟩;subst V
  go_wp21
  refine X.mono ?_;rintro e q ⟨v',rfl,f,D,A⟩;have⟨ao',cap',hv⟩:=gH f;subst hv;have Y:Kept (Value.slice ao xs.length cap).ownBlock.toList w' q:=(d.mono (by simp)).trans (S:=(Value.slice ao xs.length cap).ownBlock.toList) D;have s:q.heap[b]?=some (gJ C tB):=Y.at H.iw (by simpa using N);have d1:q.cell? ⟨b,j,none⟩=some (.slice ao xs.length cap):=by rw[fX s];exact H.cell
  have d2:=gG s j;have H3:=gh s j (.slice ao' (xs.length+1) cap');have m:(Value.slice ao' (xs.length+1) cap').ownBlock≠some b:=by
   intro Z;rcases f.2 with⟨e,_⟩|⟨g,cap,a2,e,_,hc,_⟩
   .omega
   .grind
  have H4:=yx (a:=⟨b,j,none⟩) f m (.slice ao' (xs.length+1) cap');have H5:Kept (b::(Value.slice ao xs.length cap).ownBlock.toList) w' (q.setCell ⟨b,j,none⟩ (.slice ao' (xs.length+1) cap')):=(Y.mono (λk Z _=>oX _ Z)).setCell (.inl (by simp)) _;have l:(Value.slice ao' (xs.length+1) cap').ownBlock=(Value.slice ao xs.length cap).ownBlock\/∀k,(Value.slice ao' (xs.length+1) cap').ownBlock=some k->w'.heap.size<=k:=by
   rcases A with e|e
   .exact .inl e
   .grind
  have r:=l;go_wp2;go_end0;refine⟨rfl,_,⟨H3,by simp[sV H.out.cell],?_,H.ne,by simp;omega⟩,H5,r⟩;have e1:(xs.take (n+1)++[y]++xs.drop (n+1)).length=xs.length+1:=by simp;omega
  simp_all
def Wo (x:jg):og [] x=[]:=rfl
def SS (xs:kO) (y x:jg):og (xs++[y]) x=if y=x then xs else og xs x:=by
 unfold og;rw[UT]
 by_cases h:y=x
 all_goals simp_all
def IF (xs:kO) (y:jg):iB (xs++[y]) (((xs++[y]).length:Int) - 1)=y:=by
 unfold iB;rw[gF (by grind)];simp
def Aj (a:Addr) (w:gw):Nat:=match w.cell? a with
 |some (.slice _ n _)=>n
 |_=>0
def wW.Aj (h:wW base b j tB C v xs w):Aj ⟨b,j,none⟩ w=xs.length:=by
 obtain⟨ao,cap,rfl⟩:=gH h.row;unfold YtofkkmcdggkkpaaGreatDoor.Aj;rw[h.at]
def tm.kept (h:tm w x) (g:Kept S w w') (f:∀k,x=some k->k∉S):tm w' x:=by
 intro k d;have⟨c,hc⟩:=h k d;exact⟨c,g.at hc (f k d)⟩
def Ip (h:wW base b j tB C v xs w) (m:tB≠142) (o:tm w x):∀k,x=some k->k∉b::v.ownBlock.toList:=by
 intro k n d;have⟨c,hc⟩:=o k n;rcases List.mem_cons.1 d with rfl|d
 .exact xR h.iw hc m rfl
 .rcases h.row.2 with⟨e,_⟩|⟨g,cap,l,e,_,f,_⟩
  .rw[e]at d;simp[Value.ownBlock]at d
  .rw[e]at d;simp[Value.ownBlock]at d
   grind
def Ug (base b j:Nat) (tB:TypeId) (C:jO) (v:gP) (xs:kO) (x:jg) (w:gw) (h:wW base b j tB C v xs w) (Y:tB≠142) (Z:∀x∈xs,tm w x) (hx:tm w x):
  Calls prog 309 #[jF b j,kh x] w λe w'=>e=p8/\oA base b j tB C v (og xs x) w w':=by
 have h0:=oA.refl h;have hE:=Z;have hX:=hx;have hO:=(λy hy=>Ip h Y (Z y hy));have J:=Ip h Y hx;go_enter func309,ntmps309;go_wp2
 go_loopw [9] (λ_ wr=>∃g,(∀y∈g,y∈xs)/\og g x=og xs x/\oA base b j tB C v g w wr) (λ_ wr=>Aj ⟨b,j,none⟩ wr)
 case atStart=>grind
 case round=>
  have⟨g,hS,hpt,v',L1,k1,f1⟩:=hrel;have o:=L1.Aj;have I:=L1.at;have⟨ao,cap,hv⟩:=gH L1.row;have N:g=[]\/∃f y,g=f++[y]:=by
   rcases ZP g with h|⟨f,y,h⟩
   .grind
   .grind
  rcases N with rfl|⟨f,y,rfl⟩
  .rw[hv]at I;have A:=(show oA base b j tB C v (og xs x) w wr from⟨v',by rw[<-hpt,Wo];exact L1,k1,f1⟩);clear L1 o;go_wp2;go_end0
   grind
  .rw[hv]at I;have n:0 < (f++[y]).length:=by simp
   have V:=acx base b j tB _ v' _ wr L1;rw[IF]at V;have HY:tm w y:=hE y (hS y (by simp));have D:=hO y (hS y (by simp));have HT:=(λ(r:gw) (h2:oA base b j tB (C.setIfInBounds j v') v' (f++[y]).dropLast wr r)=>oA.trans L1 k1 f1 h2);have HL:=fW L1;have hq:=fW (show og xs x=if y=x then f else og f x by rw[<-hpt,SS]);have q:=fW o;obtain⟨m,s⟩:∃m,m=(f++[y]).length:=⟨_,rfl⟩;rw[<-s]at I n q;have HM:=fW s;have a0:m<=4096:=by rw[s];exact L1.le
   clear L1 o s
   go_wp21
   refine V.mono ?_;rintro e r ⟨rfl,R⟩;have X:=HT r R;rw[Rv]at X;have⟨v2,L2,k2,f2⟩:=X;have l:=B9 (HY.kept k2 D) (hX.kept k2 J);have U:=fW L2.Aj
   by_cases d:y=x
   .rw[vn d]at l;have A:=(show oA base b j tB C v (og xs x) w r from⟨v2,by rw[hq.out,gF d];exact L2,k2,f2⟩);clear L2 d;go_wp2
    (try simp only[Exit.inBlock,Exit.then])
    refine qe (Ki rfl _ _ _) rfl ?_
    grind
   .rw[xm d]at l;have A:=(show oA base b j tB C v f w r from⟨v2,L2,k2,f2⟩);have H:=fW d;clear L2 d;go_wp2;go_roundw
    case rel=>exact⟨f,λz o=>hS z (by simp[o]),by rw[hq.out,gR H.out],A⟩
    case measure=>rw[U.out,q.out,HM.out];simp
attribute [local go_sem] Oper.semAt_some
def ky (K:List Nat) (W d:gw):Prop:=∀k∈K,d.heap[k]?=W.heap[k]?
def ky.refl (K:List Nat) (W:gw):ky K W W:=λ_ _=>rfl
def ky.trans {A B C : gw} (h:ky K A B) (k:ky K B C):ky K A C:=λx d=>(k x d).trans (h x d)
def ky.jT {d : gw} (h:Kept S W d) (f:∀k∈K,k < W.heap.size/\k∉S):ky K W d:=λk g=>h.block k (f k g).1 (f k g).2
def ky.put (f:∀k∈K,k < w.heap.size) (W:gw) (l:Nat) (o d:Obj) (h:w.heap.size<=l) (_:W.heap[l]?=some o) (_:o.isCells=false) (_:o.isWalk=false):ky K W (W.putObj l d):=
 λk g=>pk (by grind)
def wW.EM (h:wW base b j tB C v xs w) (l:ky K w w') (m:b∈K) (o:∀k,v.ownBlock=some k->k∈K):wW base b j tB C v xs w':=by
 refine⟨(l b m).trans h.iw,h.cell,⟨h.row.1,?_⟩,h.ne,h.le⟩;rcases h.row.2 with e|⟨g,cap,d,e,f,n,r⟩
 .grind
 .exact .inr ⟨g,cap,d,e,f,(l g (o g (by rw[e];rfl))).trans n,r⟩
def adX (m:Nat) (a6:1<=m) (base b j:Nat) (tB:TypeId) (C:jO) (v:gP) (xs:kO) (n bN A l:Nat) (K:List Nat) (J Jx:List {x:jg // x∈xs}->gw->Prop)
  (hn:n<=xs.length) (a1:b∈K) (a0:A∈K) (a2:∀k,v.ownBlock=some k->k∈K)
  (hY:∀pre x W,J pre W->pre.length < n->YieldAt Fence.wide (m - 1) prog l #[kh x.1] W λe y=>
   (e=ir (.bool true)/\J (pre++[x]) y/\ky K W y)\/(e=ir (.bool false)/\Jx (pre++[x]) y))
  (W:gw) (h:wW base b j tB C v xs W) (hN:W.cell? ⟨bN,0,none⟩=some (gp n)) (hL:W.cell? ⟨A,0,none⟩=some (jF b j)) (h0:J [] W):
  CallsIn Fence.wide m prog 341 #[.func (.yield l) #[] #[],gL bN,gL A] W λe y=>(∃r,e=ir r)/\
   ((∃ys,ys.map (·.1)=(xs.take n).reverse/\J ys y)\/(∃pre,pre.map (·.1) <+:(xs.take n).reverse/\Jx pre y)):=by
 refine callsIn_of_wp func341 rfl trivial ?_ rfl;simp only[ntmps341,wK,qd,uQ,Nat.reduceAdd,Nat.reduceSub,wL,wM,wN,wO,rQ,uR];have a4:=h.le;have HL:=fW h;clear h;have HY:=fW hY;clear hY;gi_wp2
 gi_loopw [4] (λi wr=>∃(k:Nat) (pre:List {x:jg // x∈xs}),k<=n/\pre.length=k/\i=gp ((n:Int) - 1 - k)/\pre.map (·.1)=(xs.take n).reverse.take k/\ky K W wr/\J pre wr)
  (λi _=>((intOf i)+1).toNat)
 case atStart=>grind[ky]
 case round=>
  obtain⟨k,pre,hk,a7,rfl,s,f,hJ⟩:=hrel;have L1:=HL.out.EM f a1 a2;have cL:wr.cell? ⟨A,0,none⟩=some (jF b j):=(ZN (w:=W) (f A a0)).trans hL;have HP:=fW s;have V:=fW f;clear s f
  by_cases a5:k < n
  .obtain⟨q,hq⟩:∃q:Nat,q=n - 1 - k:=⟨_,rfl⟩;have N:(n:Int) - 1 - k=(q:Int):=by omega
   have g:q < xs.length:=by omega
   rw[N];have Y:=YJ base b j tB C v xs (q:Int) wr L1;have hg:iB xs (q:Int)=xs[q]:=by unfold iB;rw[gF (by omega)];simp[g]
   rw[hg]at Y;have HA:=fW Y;have⟨fn,tmps,assign,body,hy,hR⟩:=HY.out pre ⟨xs[q],uP g⟩ wr hJ (by omega);dsimp only at hy;have d:(pre++[(⟨xs[q],uP g⟩:{x:jg // x∈xs})]).map (·.1)=(xs.take n).reverse.take (k+1):=by
    have I:(xs.take n).length=n:=by simp;omega
    have e1:(xs.take n).reverse[k]?=some xs[q]:=by
     rw[Rw (by omega),I,Eh,gF (by omega),show n - 1 - k=q from hq.symm,rq g]
    rw[ru,HP.out,Kk,e1];rfl
   have HS:=fW d;have HR:=fW hR;have HQ:=fW hq;clear Y hg d hR L1 hq N
   gi_wp2_with (refine⟨trivial,?_⟩;gi_at_call 229;refine(callsIn_wide.2 HA.out).mono ?_;rintro e w' ⟨rfl,rfl⟩)
   refine HR.out.mono ?_;rintro e W3 (⟨rfl,Z,H⟩|⟨rfl,D⟩)
   .have U:=fW (V.out.trans H);clear H;gi_wp2;go_roundw
    case rel=>exact⟨k+1,_,by omega,by grind,by have:=HQ.out;grind,HS.out,U.out,Z⟩
    case measure=>simp[intOf]
   .gi_wp2;refine qe (Ki rfl _ _ _) rfl ?_;refine⟨⟨_,rfl⟩,.inr ⟨_,?_,D⟩⟩;rw[HS.out];exact List.take_prefix _ _
  .have a3:k=n:=by omega
   have R:pre.map (·.1)=(xs.take n).reverse:=by
    rw[HP.out,Kl (by grind)]
   have X:=fW R;have o:(n:Int) - 1 - k= -1:=by omega
   rw[o];clear R a3 o;gi_wp2;go_end0;exact⟨⟨_,rfl⟩,.inl ⟨pre,X.out,hJ⟩⟩
abbrev mr (b j:Nat) (n:Int) (w:gw):gw:=(w.alloc (gJ #[jF b j] 256)).alloc (gJ #[gp n] 3)
abbrev uO (s:Nat):gP:= .func (.func 341) #[] #[gL (s+1),gL s]
def MA (b j:Nat) (n:Int) (w:gw):
  Calls prog 311 #[jF b j,gp n] w λe w'=>e=ir (uO w.heap.size)/\w'=mr b j n w:=by
 go_enter func311,ntmps311;go_wp2;go_ret;simp
def V3 (base b j:Nat) (tB:TypeId) (C:jO) (v:gP) (xs:kO) (w:gw) (h:wW base b j tB C v xs w):
  Calls prog 276 #[jF b j] w λe w'=>e=ir (uO w.heap.size)/\w'=mr b j xs.length w:=by
 have g:=h.at;obtain⟨ao,cap,rfl⟩:=gH h.row;have H:=MA b j xs.length w;go_enter func276,ntmps276
 go_wp21
 refine H.mono ?_;rintro e w' ⟨rfl,d⟩;have f:=fW d;clear d;go_wp2;go_ret;exact⟨rfl,f⟩
def aaY (base b j:Nat) (tB:TypeId) (C:jO) (v:gP) (xs:kO) (x:jg) (w:gw) (h:wW base b j tB C v xs w) (l:∀x∈xs,tm w x) (m:tm w x):
  Calls prog 369 #[jF b j,kh x] w λe w'=>e=ir (uO w.heap.size)/\w'=mr b j (posOf xs x) w:=by
 have n:=h.at;have f:=EI v xs x w (h.VL l) m h.le;obtain⟨ao,cap,rfl⟩:=gH h.row;have H:=MA b j (posOf xs x) w;generalize posOf xs x=q at H f|-;go_enter func369,ntmps369
 go_wp21
 refine f.mono ?_;rintro e w' ⟨rfl,d⟩;subst d
 go_wp21
 refine H.mono ?_;rintro e w' ⟨rfl,d⟩;have g:=fW d;clear d;go_wp2;go_ret;exact⟨rfl,g⟩
def Rn (m:Nat) (A:1<=m) (base b j:Nat) (tB:TypeId) (C:jO) (v:gP) (xs:kO) (n s:Nat) (K:List Nat) (w:gw)
  (h:wW base b j tB C v xs w) (V:n<=xs.length) (o:b∈K) (g:s∈K) (q:∀k,v.ownBlock=some k->k∈K) (y:s+1 < w.heap.size)
  (R:w.heap[s+1]?=some (gJ #[gp n] 3)) (N:w.heap[s]?=some (gJ #[jF b j] 256)):
  SeqStopsK Fence.wide m prog 341 #[gL (s+1),gL s] (λx:{x:jg // x∈xs}=>#[kh x.1]) (ky K)
   (λX=>X.map (·.1)=(xs.take n).reverse) (λpre=>pre.map (·.1) <+:(xs.take n).reverse) n w:=by
 intro l J D W f _ _ U I;have r:=jn h.iw;have H:wW base b j tB C v xs W:=by
  refine h.EM (K:=b::v.ownBlock.toList) (λk d=>f.block k ?_) (by simp) (λk d=>by simp[d]);rcases List.mem_cons.1 d with rfl|d
  .exact r
  .exact(h.row.lt k (by grind)).2
 exact adX m A base b j tB C v xs n (s+1) s l K J D V o g q U W H (by rw[fX ((f.block _ y).trans R)];rfl) (by rw[fX ((f.block _ (by omega)).trans N)];rfl) I
def kA (a b:gz):Bool:=a.toList==b.toList
def xe {a b : gz}:kA a b=true↔a=b:=by
 unfold kA;rw[sH,sH,beq_iff_eq];exact⟨λh=>WideShapes.bytes_inj h,λh=>by rw[h]⟩
def Yd {a b : gz}:kA a b=false↔a≠b:=by rw[Ne,<-xe];simp
def ik (d:List gz) (x:gz):Bool:=d.any (kA x)
def Qm (d:List gz) (s:gz):Int:=if d.findIdx (kA s) < d.length then (d.findIdx (kA s):Int)else -1
def abn {xs : List gz} {x : gz} (m:k < xs.length) (h:xs[k]=x) (g:∀j,j < k->xs[j]?≠some x):Qm xs x=k:=by
 have o:xs.findIdx (kA x)=k:=by
  have f:xs.findIdx (kA x) < xs.length:=ZQ ⟨x,h▸uP m,xe.2 rfl⟩;have l:¬xs.findIdx (kA x) < k:=λd=>g _ d (by
   rw[rq f];exact sI some (xe.1 (List.findIdx_getElem (w:=f))).symm)
  have n:¬k < xs.findIdx (kA x):=λd=>by
   have:=List.not_of_lt_findIdx d;rw[h]at this;exact absurd (xe.2 rfl) (by simpa using this)
  omega
 grind[Qm]
def abo {xs : List gz} {x : gz} (d:∀j,j < xs.length->xs[j]?≠some x):Qm xs x= -1:=by
 unfold Qm;rw[gR];intro h;exact d _ h (by rw[rq h];exact sI some (xe.1 (List.findIdx_getElem (w:=h))).symm)
def Zb (xs:List gz) (x:gz):decide (0<=Qm xs x)=ik xs x:=by
 grind[Qm,ik]
def aaO (g cap:Nat) (d:List gz) (x:gz) (w:gw) (s:∀k,(I:k < d.length)->w.cell? ⟨g,k,none⟩=some (gI d[k])) (J:d.length<=4096):
  Calls prog 310 #[rh g d.length cap,gI x] w λe w'=>e=ir (gp (Qm d x))/\w'=w:=by
 have A:=fW s;clear s;go_enter func310,ntmps310;go_wp2
 go_loopw [8] (λi wr=>∃k:Nat,k<=d.length/\i=gp k/\wr=w/\∀j,j < k->d[j]?≠some x) (λi _=>d.length - (intOf i).toNat)
 case atStart=>grind
 case round=>
  obtain⟨k,I,rfl,rfl,q⟩:=hrel
  by_cases f:k < d.length
  .have D:=A k f;obtain⟨y,o⟩:∃y,y=d[k]:=⟨_,rfl⟩;rw[<-o]at D;have r:=fW o;clear o
   by_cases l:x=y
   .have n:=fW (abn f (r.symm.trans l.symm) q);subst l;go_wp2;go_ret;exact⟨by rw[n.out];rfl,rfl⟩
   .have m:=l;have N:(x.toList==y.toList)=false:=Yd.2 l;go_wp2;go_roundw
    case rel=>
     refine⟨k+1,by omega,by go_num,by simp,λj H=>?_⟩
     by_cases e:j=k
     .subst e;rw[rq f];exact λh=>m ((jK h).symm.trans r.symm)
     grind
    case measure=>simp[intOf];omega
  .have n:=fW (abo (xs:=d) (x:=x) (λj H=>q j (by omega)));go_wp2;go_ret;exact⟨by rw[n.out];rfl,rfl⟩
def M5 (g cap:Nat) (d:List gz) (x:gz) (w:gw) (l:∀k,(hk:k < d.length)->w.cell? ⟨g,k,none⟩=some (gI d[k])) (h:d.length<=4096):
  Calls prog 274 #[rh g d.length cap,gI x] w λe w'=>e=ir (.bool (ik d x))/\w'=w:=by
 have H:=aaO g cap d x w l h;have f:=fW (Zb d x);generalize Qm d x=q at H f;generalize ik d x=r at f|-;go_enter func274,ntmps274
 go_wp21
 refine H.mono ?_;rintro e w' ⟨rfl,rfl⟩;go_wp2;go_ret;exact⟨by rw[<-f.out];rfl,rfl⟩
structure nR (E:List Nat) (v:gP) (p:gz->Bool) (w:gw):Prop where
 ex:∃k lb,v= .func (.func k) #[] lb/\Enters prog k/\∀W,ky E w W->∀s,Calls prog k (#[gI s]++lb) W λe W'=>e=ir (.bool (p s))/\W'=W
 lt:∀e∈E,e < w.heap.size
def nR.keeps (h:nR E v p w) (m:ky E w w') (o:w.heap.size<=w'.heap.size):nR E v p w':=by
 obtain⟨⟨k,q,rfl,l,g⟩,n⟩:=h;exact⟨⟨k,q,rfl,l,λW f s=>g W (m.trans f) s⟩,λe d=>lU (n e d) o⟩
def nR.kept (h:nR E v p w) (f:Kept S w w') (g:∀e∈E,e∉S):nR E v p w':=
 h.keeps (ky.jT f λk d=>⟨h.lt k d,g k d⟩) f.size
def nR.im (h:nR E v p w) (d:Kept [] w w'):nR E v p w':=h.kept d (λ_ _=>by simp)
def nZ (h:ky E w W) (d:b∈E) (f:w.heap[b]?=some (gJ c t)):W.heap[b]?=some (gJ c t):=(h b d).trans f
def YA (bs g cap:Nat) (d:List gz) (w:gw) (m:w.heap[bs]?=some (gJ #[rh g d.length cap] 210)) (n:w.heap[g]?=some (gJ (d.map Value.string).toArray 9)) (f:d.length<=4096):
  nR [bs,g] (.func (.func 273) #[] #[gL bs]) (ik d) w:=by
 refine⟨⟨_,_,rfl,enters_of func273 (by rfl) rfl,λW h s=>?_⟩,λe o=>?_⟩
 .have l:=fX (nZ h (by simp) m) 0;dsimp at l;have H:=M5 g cap d s W (λk q=>by rw[fX (nZ h (by simp) n)];simp) f;show Calls prog 273 #[gI s,gL bs] W _;generalize ik d s=r at H|-;go_enter func273,ntmps273
  go_wp21
  refine H.mono ?_;rintro e w' ⟨rfl,rfl⟩;go_wp2;go_ret;simp
 grind
def acp (g cap:Nat) (n:Nat) (w:gw):
  Calls prog 206 #[rh g n cap] w λe w'=>e=ir (.func (.func 273) #[] #[gL w.heap.size])/\w'=w.alloc (gJ #[rh g n cap] 210):=by
 go_enter func206,ntmps206;go_wp2;go_ret;simp
def ky.sub {K' : List Nat} {A B : gw} (h:ky K A B) (f:∀k∈K',k∈K):ky K' A B:=λk d=>h k (f k d)
def adI (h l:Nat) (y A:List Nat) (v1 v2:gP) (p q:gz->Bool) (w:gw) (X:w.heap[h]?=some (gJ #[v1] 150)) (Y:w.heap[l]?=some (gJ #[v2] 150)) (D:nR y v1 p w) (H:nR A v2 q w):
  nR (h::l::(y++A)) (.func (.func 281) #[] #[gL h,gL l]) (λs=>p s||q s) w:=by
 refine⟨⟨_,_,rfl,enters_of func281 (by rfl) rfl,λW m s=>?_⟩,λe f=>?_⟩
 .have U:=fX (nZ m (by simp) X) 0;have V:=fX (nZ m (by simp) Y) 0;dsimp at U V;obtain⟨I,Z,rfl,e1,N⟩:=D.ex;obtain⟨J,a0,rfl,e2,R⟩:=H.ex;have g:=N W (m.sub (λk n=>by simp[n])) s;have o:=R W (m.sub (λk n=>by simp[n])) s;have f1:∀d w,(callFunc I d).run prog w= .ok (.enter I d) w:=e1;have f2:∀d w,(callFunc J d).run prog w= .ok (.enter J d) w:=e2;show Calls prog 281 #[gI s,gL h,gL l] W _;cases hps:p s with
  |true=>
   rw[hps]at g;go_enter func281,ntmps281
   go_wp21
   refine g.mono ?_;rintro e w' ⟨rfl,rfl⟩;go_wp2;go_ret;simp
  |false=>
   rw[hps]at g;generalize q s=r at o|-;go_enter func281,ntmps281
   go_wp21
   refine g.mono ?_;rintro e w' ⟨rfl,rfl⟩
   go_wp21
   refine o.mono ?_;rintro e w' ⟨rfl,rfl⟩;go_wp2;go_ret;simp
 .simp at f;rcases f with rfl|rfl|f|f
  .grind
  .grind
  .exact D.lt e f
  .exact H.lt e f
def aal (h l:Nat) (y A:List Nat) (v1 v2:gP) (p q:gz->Bool) (w:gw) (X:w.heap[h]?=some (gJ #[v1] 150)) (Y:w.heap[l]?=some (gJ #[v2] 150)) (D:nR y v1 p w) (H:nR A v2 q w):
  nR (h::l::(y++A)) (.func (.func 305) #[] #[gL h,gL l]) (λs=>p s&&!q s) w:=by
 refine⟨⟨_,_,rfl,enters_of func305 (by rfl) rfl,λW m s=>?_⟩,λe f=>?_⟩
 .have U:=fX (nZ m (by simp) X) 0;have V:=fX (nZ m (by simp) Y) 0;dsimp at U V;obtain⟨I,Z,rfl,e1,N⟩:=D.ex;obtain⟨J,a0,rfl,e2,R⟩:=H.ex;have g:=N W (m.sub (λk n=>by simp[n])) s;have o:=R W (m.sub (λk n=>by simp[n])) s;have f1:∀d w,(callFunc I d).run prog w= .ok (.enter I d) w:=e1;have f2:∀d w,(callFunc J d).run prog w= .ok (.enter J d) w:=e2;show Calls prog 305 #[gI s,gL h,gL l] W _;cases hps:p s with
  |true=>
   rw[hps]at g;generalize q s=r at o|-;go_enter func305,ntmps305
   go_wp21
   refine g.mono ?_;rintro e w' ⟨rfl,rfl⟩
   go_wp21
   refine o.mono ?_;rintro e w' ⟨rfl,rfl⟩;go_wp2;go_ret;simp
  |false=>
   rw[hps]at g;go_enter func305,ntmps305
   go_wp21
   refine g.mono ?_;rintro e w' ⟨rfl,rfl⟩;go_wp2;go_ret;simp
 .simp at f;rcases f with rfl|rfl|f|f
  .grind
  .grind
  .exact D.lt e f
  .exact H.lt e f
def aa6 (f:Nat) (l:List Nat) (v1:gP) (p:gz->Bool) (w:gw) (A:w.heap[f]?=some (gJ #[v1] 150)) (n:nR l v1 p w):
  nR (f::l) (.func (.func 280) #[] #[gL f]) (λs=>!p s) w:=by
 refine⟨⟨_,_,rfl,enters_of func280 (by rfl) rfl,λW m s=>?_⟩,λe g=>?_⟩
 .have y:=fX (nZ m (by simp) A) 0;dsimp at y;obtain⟨o,H,rfl,e1,q⟩:=n.ex;have h:=q W (m.sub (λk D=>by simp[D])) s;have I:∀d w,(callFunc o d).run prog w= .ok (.enter o d) w:=e1;show Calls prog 280 #[gI s,gL f] W _;generalize p s=r at h|-;go_enter func280,ntmps280
  go_wp21
  refine h.mono ?_;rintro e w' ⟨rfl,rfl⟩;go_wp2;go_ret;simp
 .simp at g;rcases g with rfl|g
  .grind
  .exact n.lt e g
def abg (f g:List Nat) (v1 v2:gP) (p q:gz->Bool) (w:gw) (m:nR f v1 p w) (n:nR g v2 q w):
  Calls prog 226 #[v1,v2] w λe w'=>(∃v,e=ir v/\nR (w.heap.size::(w.heap.size+1)::(f++g)) v (λs=>p s||q s) w'/\w'.heap[w.heap.size]?=some (gJ #[v1] 150)/\w'.heap[w.heap.size+1]?=some (gJ #[v2] 150))/\Kept [] w w':=by
 have h:Calls prog 226 #[v1,v2] w λe w'=>e=ir (.func (.func 281) #[] #[gL w.heap.size,gL (w.heap.size+1)])/\w'=(w.alloc (gJ #[v1] 150)).alloc (gJ #[v2] 150):=by
  obtain⟨o,r,rfl,_,_⟩:=m.ex;obtain⟨d,y,rfl,_,_⟩:=n.ex;go_enter func226,ntmps226;go_wp2;go_ret;exact⟨by simp,rfl⟩
 refine h.mono ?_;rintro e w' ⟨rfl,rfl⟩;have o:Kept [] w (w.alloc (gJ #[v1] 150)):=(Kept.refl _ _).alloc _;have d:=o.alloc (gJ #[v2] 150);have l:=fZ (w.alloc (gJ #[v1] 150)) (gJ #[v2] 150);rw[ry]at l;exact⟨⟨_,rfl,adI _ _ f g v1 v2 p q _ ((Below.heap_alloc _ _ _ (by simp)).trans (fZ w _)) l (m.im d) (n.im d),(Below.heap_alloc _ _ _ (by simp)).trans (fZ w _),l⟩,d⟩
def XK (f g:List Nat) (v1 v2:gP) (p q:gz->Bool) (w:gw) (m:nR f v1 p w) (n:nR g v2 q w):
  Calls prog 262 #[v1,v2] w λe w'=>(∃v,e=ir v/\nR (w.heap.size::(w.heap.size+1)::(f++g)) v (λs=>p s&&!q s) w'/\w'.heap[w.heap.size]?=some (gJ #[v1] 150)/\w'.heap[w.heap.size+1]?=some (gJ #[v2] 150))/\Kept [] w w':=by
 have h:Calls prog 262 #[v1,v2] w λe w'=>e=ir (.func (.func 305) #[] #[gL w.heap.size,gL (w.heap.size+1)])/\w'=(w.alloc (gJ #[v1] 150)).alloc (gJ #[v2] 150):=by
  obtain⟨o,r,rfl,_,_⟩:=m.ex;obtain⟨d,y,rfl,_,_⟩:=n.ex;go_enter func262,ntmps262;go_wp2;go_ret;exact⟨by simp,rfl⟩
 refine h.mono ?_;rintro e w' ⟨rfl,rfl⟩;have o:Kept [] w (w.alloc (gJ #[v1] 150)):=(Kept.refl _ _).alloc _;have d:=o.alloc (gJ #[v2] 150);have l:=fZ (w.alloc (gJ #[v1] 150)) (gJ #[v2] 150);rw[ry]at l;exact⟨⟨_,rfl,aal _ _ f g v1 v2 p q _ ((Below.heap_alloc _ _ _ (by simp)).trans (fZ w _)) l (m.im d) (n.im d),(Below.heap_alloc _ _ _ (by simp)).trans (fZ w _),l⟩,d⟩
def YX (d:List Nat) (v1:gP) (p:gz->Bool) (w:gw) (g:nR d v1 p w):
  Calls prog 225 #[v1] w λe w'=>(∃v,e=ir v/\nR (w.heap.size::d) v (λs=>!p s) w'/\w'.heap[w.heap.size]?=some (gJ #[v1] 150))/\Kept [] w w':=by
 have h:Calls prog 225 #[v1] w λe w'=>e=ir (.func (.func 280) #[] #[gL w.heap.size])/\w'=w.alloc (gJ #[v1] 150):=by
  obtain⟨f,l,rfl,_,_⟩:=g.ex;go_enter func225,ntmps225;go_wp2;go_ret;exact⟨rfl,rfl⟩
 refine h.mono ?_;rintro e w' ⟨rfl,rfl⟩;have f:Kept [] w (w.alloc (gJ #[v1] 150)):=(Kept.refl _ _).alloc _;exact⟨⟨_,rfl,aa6 _ d v1 p _ (fZ w _) (g.im f),fZ w _⟩,f⟩
open Go.ChangeMaps (setBlock)
def TO (a b:gz):(a==b)=kA a b:=by
 have h:(a==b)=(a.data==b.data):=rfl;rw[h]
 by_cases e:a=b
 .grind[kA]
 .rw[Yd.2 e];have:a.data≠b.data:=λd=>e (by cases a;simp_all)
  grind
def kvE (e:MapEntry):gP×gP:=(e.key,e.val)
def kvP (p:gz×gP):gP×gP:=(gI p.1,p.2)
def Yi:List (gz×gP)->gz->Nat->Option (Nat×gP)
 |[],_,_=>none
 |p::L,k,i=>if kA k p.1 then some (i,p.2)else Yi L k (i+1)
def zL:List (gz×gP)->gz->Option gP
 |[],_=>none
 |p::L,k=>if kA k p.1 then some p.2 else zL L k
def Ck:List (gz×gP)->gz->gP->List (gz×gP)
 |[],k,v=>[(k,v)]
 |p::L,k,v=>if kA k p.1 then (k,v)::L else p::Ck L k v
def Pt:∀(L:List (gz×gP)) (k:gz) (i:Nat),(Yi L k i).map (·.2)=zL L k
 |[],_,_=>rfl
 |p::L,k,i=>by
  unfold Yi zL;split
  .rfl
  .exact Pt L k (i+1)
def Pu:∀(L:List (gz×gP)) (k:gz) (i:Nat) (v:gP),Yi L k i=none->Ck L k v=L++[(k,v)]
 |[],_,_,_,_=>rfl
 |p::L,k,i,v,h=>by
  unfold Yi at h;split at h
  .cases h
  .rename_i d;unfold Ck;rw[gR d,Pu L k (i+1) v h];rfl
def Pv:∀(L:List (gz×gP)) (k:gz) (i j:Nat) (u v:gP),Yi L k i=some (j,u)->∃n,j=i+n/\n < L.length/\(L[n]?).map (·.1)=some k/\Ck L k v=L.set n (k,v)
 |[],_,_,_,_,_,h=>by cases h
 |p::L,k,i,j,u,v,h=>by
  unfold Yi at h;split at h
  .rename_i d;cases h;refine⟨0,rfl,by simp,?_,?_⟩
   .simp[(xe.1 d)]
   grind[Ck]
  .rename_i d;have⟨n,e1,e2,e3,e4⟩:=Pv L k (i+1) j u v h;refine⟨n+1,by omega,by grind,by grind,?_⟩
   grind[Ck]
def Ni (k:gz):∀(d:List MapEntry) (L:List (gz×gP)) (i:Nat),d.map kvE=L.map kvP->Instr.findNow .string (gI k) d i=some (Yi L k i)
 |[],[],_,_=>rfl
 |[],_::_,_,h=>by simp at h
 |_::_,[],_,h=>by simp at h
 |e::d,p::L,i,h=>by
  simp only[yy,Rx]at h;have f:e.key=gI p.1:=sI Prod.fst h.1;have g:e.val=p.2:=sI Prod.snd h.1;unfold Instr.findNow Yi;simp only[f,Instr.sameNow,TO];cases hf:kA k p.1
  .exact Ni k d L (i+1) h.2
  grind
def sK (w:gw) (b:Nat) (L:List (gz×gP)):Prop:=∃f d,w.heap[b]?=some (.map f d)/\f.toList.map kvE=L.map kvP
def sK.keeps (h:sK w b L) (e:w'.heap[b]?=w.heap[b]?):sK w' b L:=by
 grind[sK]
def sK.lt (h:sK w b L):b < w.heap.size:=by
 have⟨es,clock,ha,_⟩:=h
 grind
def sK.kept (h:sK w b L) (f:Kept S w w') (d:b∉S):sK w' b L:=h.keeps (f.block b h.lt d)
def sK.new (w:gw):sK (w.alloc (.map #[] 0)) w.heap.size []:=⟨#[],0,fZ w _,rfl⟩
def Ag (h:Kept S a w) (g:b∈S\/a.heap.size<=b) (o:Obj):Kept S a (setBlock w b o):=
 ⟨h.os,h.tape,h.output,by show a.heap.size<=(w.heap.setIfInBounds b o).size;rw[Ry];exact h.size,λk d f=>by
  show(w.heap.setIfInBounds b o)[k]?=_;rw[Ei (by grind)];exact h.block k d f⟩
def D6 (h:b < w.heap.size) (o:Obj):(setBlock w b o).heap[b]?=some o:=by
 show(w.heap.setIfInBounds b o)[b]?=_
 grind
def Fc {E : TypeId} {z : gP} (g:prog.underlying T=some (.map 9 E)) (n:∀w,(zeroValue E).run prog w= .ok z w) (h:sK w b L) (k:gz):
  (Instr.lookup T (.map (some b)) (gI k) false).run prog w= .ok ((zL L k).getD z) w:=by
 have⟨es,clock,ha,hl⟩:=h;have m:(underlying 9).run prog w= .ok .string w:=pO underlying9 _;have l:∀x,(Instr.checkKey x 10000 9 (gI k)).run prog w= .ok () w:=λx=>by
  unfold Instr.checkKey;simp
 have d:=Ni k es.toList L 0 hl;have f:=Pt L k 0;cases hq:Yi L k 0 with
 |none=>
  rw[hq]at d f;rw[<-f];simp[Instr.lookup,pO g,Km ha,l,Instr.findKey,m,d,n,Result.andThen]
 |some p=>
  rw[hq]at d f;rw[<-f];simp[Instr.lookup,pO g,Km ha,l,Instr.findKey,m,d,Result.andThen]
def QM {E : TypeId} (q:prog.underlying T=some (.map 9 E)) (h:sK w b L) (k:gz) (v:gP):
  ∃w',(Instr.mapUpdate T (.map (some b)) (gI k) v).run prog w= .ok () w'/\sK w' b (Ck L k v)/\Kept [b] w w'/\w'.heap.size=w.heap.size:=by
 have f:=h.lt;have⟨es,clock,ha,hl⟩:=h;have y:(underlying 9).run prog w= .ok .string w:=pO underlying9 _;have r:∀x,(Instr.checkKey x 10000 9 (gI k)).run prog w= .ok () w:=λx=>by
  unfold Instr.checkKey;simp
 have g:=Ni k es.toList L 0 hl;cases hq:Yi L k 0 with
 |none=>
  rw[hq]at g;refine⟨setBlock w b (.map (es.push {key:=gI k,val:=v,born:=clock}) (clock+1)),?_,⟨_,_,D6 f _,?_⟩,Ag (Kept.refl _ _) (.inl (by simp)) _,?_⟩
  .simp[Instr.mapUpdate,pO q,Km ha,r,Instr.findKey,y,g,setObj,Sem.run,ha,setBlock,Result.andThen]
  .rw[Pu L k 0 v hq];simp[hl,kvE,kvP]
  .show(w.heap.setIfInBounds b _).size=_;simp
 |some p=>
  have⟨j,u⟩:=p;rw[hq]at g;have⟨n,hj,hn,hkey,hput⟩:=Pv L k 0 j u v hq;have m:j=n:=by omega
  subst m;have s:es.size=L.length:=by have:=sI List.length hl;simpa using this
  have l:(es[j]?).map (·.key)=some (gI k):=by
   have d:(es.toList.map kvE)[j]?=(L.map kvP)[j]?:=by rw[hl]
   rw[UU,UU]at d;rw[UV]at d;rw[rq hn]at hkey d;rw[AJ (by omega)]at d|-;simp[kvE,kvP]at d hkey|-;rw[d.1,hkey]
  refine⟨setBlock w b (.map (es.modify j λe=>{e with key:=gI k,val:=v}) clock),?_,⟨_,_,D6 f _,?_⟩,Ag (Kept.refl _ _) (.inl (by simp)) _,?_⟩
  .have A:(Instr.keyThatStays (((es[j]?).map (·.key)).getD (gI k)) (gI k)).run prog w= .ok (gI k) w:=by
    rw[l];have o:(k==k)=true:=by rw[TO];exact xe.2 rfl
    simp[Instr.keyThatStays,Instr.sameBits,o]
   simp[Instr.mapUpdate,pO q,Km ha,r,Instr.findKey,y,g,A,setObj,Sem.run,ha,setBlock,Result.andThen]
  .rw[hput];apply List.ext_getElem?;intro i;have d:(es.toList.map kvE)[i]?=(L.map kvP)[i]?:=by rw[hl]
   grind[kvE,kvP]
  .show(w.heap.setIfInBounds b _).size=_;simp
section
variable {P:Program} {ops:Array Oper} {Q:Exit->Act->gw->Prop} {md:Region.Mode}
def Bc {I:Array Bool->Act->gw->Prop}
  (m:∀d a w i,I d a w->i∈Region.ready md ops d->wpOp P ops Q i (I (d.setIfInBounds i true)) a w)
  (g:∀d a w,I d a w->Region.ready md ops d=[]->Q .normal a w):
  ∀f d a w,((List.range ops.size).filter (λi=>!d.getD i true)).length<=f->I d a w->wpAny P md ops Q f d a w:=by
 intro f
 induction f with
 |zero=>
  intro d a w R q;have r:(List.range ops.size).filter (λi=>!d.getD i true)=[]:=Xa (by omega);have A:Region.ready md ops d=[]:=by
   unfold Region.ready;rw[UW]at r|-;intro i l s;apply r i l;rw[rR]at s;exact s.1
  exact⟨A,g _ _ _ q A⟩
 |succ n ih=>
  intro d a w R q;refine⟨g _ _ _ q,λi l=>wpOp_mono (λD w' H=>ih _ D w' ?_ H) (m _ _ _ i q l)⟩;have o:i∈(List.range ops.size).filter (λi=>!d.getD i true):=by
   unfold Region.ready at l;rw[MB,rR]at l;exact List.mem_filter.2 ⟨l.1,l.2.1⟩
  have y:d.getD i true=false:=by
   have:=(List.mem_filter.1 o).2
   simpa using this
  have N:i < d.size:=by
   apply Decidable.byContradiction;intro h;rw[Rz,BJ (by omega)]at y;simp at y
  have e:(List.range ops.size).filter (λj=>!(d.setIfInBounds i true).getD j true)=((List.range ops.size).filter (λj=>!d.getD j true)).filter (λj=>j != i):=by
   rw[List.filter_filter];refine List.filter_congr λj _=>?_
   by_cases J:j=i
   .simp_all
   .have:i≠j:=λh=>J h.symm
    simp_all
  rw[e];have:(((List.range ops.size).filter (λj=>!d.getD j true)).filter (λj=>j != i)).length < ((List.range ops.size).filter (λj=>!d.getD j true)).length:=by
   rw[List.length_filter_lt_length_iff_exists];exact⟨i,o,by simp⟩
  omega
end
def dn (z:Array Bool) (k:Nat):Bool:=z.getD k true
def cd (z:Array Bool) (k:Nat) (v:gP):gP:=cond (dn z k) v undef
def vc (md:Region.Mode) (ops:Array Oper) (i:Nat):List Nat:=
 match ops[i]? with|some o=>(o.after.toList.filter (Region.binds md)).map (·.on)|none=>[]
def rS:dn (z.setIfInBounds k true) k=true:=by
 simp[dn]
def oF (h:k≠j):dn (z.setIfInBounds k true) j=dn z j:=getD_set_ne true h
def pY {p : Prop} (h:dn z j=true->p) (d:k≠j):dn (z.setIfInBounds k true) j=true->p:=by
 rw[oF d];exact h
def ld (h:dn z k=true):cd z k v=v:=by unfold cd;grind
def acj (h:dn z k=false):cd z k v=undef:=by unfold cd;grind
def oC:cd (z.setIfInBounds k true) k v=v:=ld rS
def vm (h:k≠j):cd (z.setIfInBounds k true) j v=cd z j v:=by
 unfold cd;rw[oF h]
def ce (z:Array Bool) (k:Nat) (u v:gP):gP:=cond (dn z k) v u
def XQ (h:dn z k=true):ce z k u v=v:=by unfold ce;grind
def TU:ce (z.setIfInBounds k true) k u v=v:=XQ rS
def ack (h:k≠j):ce (z.setIfInBounds k true) j u v=ce z j u v:=by
 unfold ce;rw[oF h]
def xw {n : Nat}:dn (Array.replicate n true) k=true:=by
 unfold dn;rw[Rz,Array.getElem?_replicate];grind
def uZ {n : Nat}:cd (Array.replicate n true) k v=v:=ld xw
def XP {n : Nat}:ce (Array.replicate n true) k u v=v:=XQ xw
def mU {p : Nat->Prop}:∀k < 0,p k:=λ_ h=>absurd h (Nat.not_lt_zero _)
def mQ {p : Nat->Prop} {n : Nat} (t:∀k < n,p k) (h:p n):∀k < n+1,p k:=λk d=>by
 grind
def BR (z:Array Bool) (i:Nat):List Nat->Prop
 |[]=>dn z i=false
 |j::l=>dn z j=true/\BR z i l
def TJ (h:z.getD i true=false):∀{l:List Nat},(∀j∈l,z.getD j true=true)->BR z i l
 |[],_=>h
 |j::l,hl=>⟨hl j (pP ..),TJ h λk d=>hl k (oX _ d)⟩
def yJ (md:Region.Mode) (ops:Array Oper):List (List Nat):=(List.range ops.size).map (vc md ops)
def YP:Nat->List (List Nat)->Bool
 |_,[]=>true
 |i,l::ls=>l.all (· < i)&&YP (i+1) ls
def Uj:∀{d:List (List Nat)} {i k:Nat} {l:List Nat},YP i d=true->d[k]?=some l->∀j∈l,j < i+k
 |l'::d,i,0,l,h,hk,j,hj=>by
  simp at hk;subst hk;simp[YP]at h;grind
 |l'::d,i,k+1,l,h,hk,j,hj=>by
  simp[YP]at h;have:=Uj (i:=i+1) (k:=k) h.2 (by grind) j hj;omega
def aas:List (List Nat)->List (List Nat)->List (List Nat)
 |acc,[]=>acc
 |acc,l::ls=>aas (acc++[(l++l.flatMap λj=>acc.getD j []).eraseDups]) ls
def FM:∀(g d:List (List Nat)),(∀k,dn z k=true->∀j∈d.getD k [],dn z j=true)->
  (∀k l,g[k]?=some l->dn z (d.length+k)=true->∀j∈l,dn z j=true)->∀k,dn z k=true->∀j∈(aas d g).getD k [],dn z j=true
 |[],d,h,_=>h
 |l::g,d,h,hl=>by
  refine FM g _ ?_ ?_
  .intro k m j f;rw[xo]at f
   by_cases o:k < d.length
   .rw[UX o]at f;exact h k m j (by grind)
   .by_cases q:k=d.length
    .subst q;simp at f;have n:=hl 0 l rfl m;rcases f with f|⟨i,r,f⟩
     .grind
     .exact h i (n i r) j (by grind)
    grind
  .intro k s m y j f;refine hl (k+1) s (by grind) ?_ j f
   grind
def OZ:∀(g d:List (List Nat)),(∀k,∀j∈d.getD k [],j < k)->(∀k l,g[k]?=some l->∀j∈l,j < d.length+k)->∀k,∀j∈(aas d g).getD k [],j < k
 |[],d,h,_=>h
 |l::g,d,h,hl=>by
  refine OZ g _ ?_ ?_
  .intro k j f;rw[xo]at f
   by_cases q:k < d.length
   .grind
   .by_cases m:k=d.length
    .subst m;simp at f;have o:=hl 0 l rfl;rcases f with f|⟨i,r,f⟩
     .grind
     .have:=h i j (by grind)
      grind
    grind
  .intro k n s j f;have:=hl (k+1) n (by grind) j f
   grind
def okT (n:Nat) (md:Region.Mode) (ops:Array Oper) (d:List (List Nat)):Bool:=
 d.length==ops.size&&n==ops.size&&YP 0 (yJ md ops)&&(List.range ops.size).all λi=>(d.getD i []).all λj=>((aas [] (yJ md ops)).getD i []).contains j
section
variable {P:Program} {ops:Array Oper} {Q:Exit->Act->gw->Prop} {md:Region.Mode} {G:Type}
def pN (Z:G->Array Bool->Act) (I:G->Array Bool->gw->Prop) (n:Nat) (q:List (List Nat)) {a:Act} {w:gw} (g:G)
  (D:okT n md ops q=true) (ha:a=Z g (Array.replicate n false)) (h0:I g (Array.replicate n false) w)
  (hs:∀i < n,∀g z W,I g z W->BR z i (q.getD i [])->(∀j,i∈q.getD j []->dn z j=false)->
   wpOp P ops Q i (λa W'=>∃g,a=Z g (z.setIfInBounds i true)/\I g (z.setIfInBounds i true) W') (Z g z) W)
  (V:∀g W,I g (Array.replicate n true) W->Q .normal (Z g (Array.replicate n true)) W):
  wpAny P md ops Q ops.size (Array.replicate ops.size false) a w:=by
 subst ha;simp only[okT,rR,beq_iff_eq,RD,Kn]at D;have⟨⟨⟨hnd,hn⟩,hl0⟩,hsub⟩:=D;have J:∀i < ops.size,∀j∈vc md ops i,j < i:=by
  intro i H j d;have:=Uj (i:=0) (k:=i) (l:=vc md ops i) hl0 (by simp[yJ,H]) j d;omega
 rw[hn]at h0 hs V|-;have a2:∀i < ops.size,∀j∈q.getD i [],j < i:=by
  intro i H j d;have R:=hsub i H j d;refine OZ (yJ md ops) [] (by simp) (λk l m=>?_) i j (by simpa using R);have s:k < ops.size:=by simpa [yJ]using (List.getElem?_eq_some_iff.1 m).1
  have:l=vc md ops k:=by simpa [yJ,s]using m.symm
  subst this
  simpa using J k s
 have A:∀z:Array Bool,(∀j,dn z j=true->∀k∈vc md ops j,dn z k=true)->∀i < ops.size,dn z i=true->∀j∈q.getD i [],dn z j=true:=by
  intro z N i H V j d;refine FM (yJ md ops) [] (by simp) ?_ i V j (by grind);intro k l m V j d;have s:k < ops.size:=by simpa [yJ]using (List.getElem?_eq_some_iff.1 m).1
  have:l=vc md ops k:=by simpa [yJ,s]using m.symm
  subst this;exact N k (by simpa using V) j d
 have a0:∀z:Array Bool,z.size=ops.size->∀i,i∈Region.ready md ops z->z.getD i true=false/\i < ops.size/\∀j∈vc md ops i,z.getD j true=true:=by
  intro z N i H;have⟨a,o,ho,r⟩:=mem_ready.1 H;refine⟨a,(Array.getElem?_eq_some_iff.1 ho).1,λj d=>?_⟩;simp only[vc,ho,List.mem_map,MB]at d;obtain⟨e,⟨he,hb⟩,rfl⟩:=d;have R:=r e (by simpa using he) hb;rw[Rz]at R|-;cases hx:z[e.on]? with
  |none=>rfl
  |some b=>grind
 refine Bc (I:=λz a W=>(z.size=ops.size/\∀j,dn z j=true->∀k∈vc md ops j,dn z k=true)/\∃g,a=Z g z/\I g z W) ?_ ?_ _ _ _ _ ?_ ⟨⟨by simp,λj d k m=>?_⟩,g,rfl,h0⟩
 .rintro z a W i ⟨⟨N,U⟩,g,rfl,hI⟩ H;have⟨a,b,c⟩:=a0 z N i H;have y:∀j,dn (z.setIfInBounds i true) j=true->∀k∈vc md ops j,dn (z.setIfInBounds i true) k=true:=by
   intro j d k m;have:dn z k=true:=by
    by_cases X:i=j
    .subst X;exact c k m
    .rw[oF X]at d;exact U j d k m
   by_cases Y:i=k
   .subst Y;exact rS
   .rw[oF Y];omega
  refine wpOp_mono (λa' W' h=>⟨⟨by simpa using N,λj d k m=>?_⟩,h⟩) (hs i b g z W hI (TJ a λj d=>?_) λj d=>?_)
  .exact y j d k m
  .have hl:=a2 i b j d;have:=A _ y i b rS j d
   rwa [oF (by omega)]at this
  .rw[<-Bool.not_eq_true];intro a1
   by_cases f:j < ops.size
   .have:=A z U j f a1 i d;rw[show dn z i=false from a]at this;cases this
   grind
 .rintro z a W ⟨⟨N,_⟩,g,rfl,hI⟩ hr;have r:∀i,∀j≤i,z.getD j true=true:=by
   intro i
   induction i with
   |zero=>?_
   |succ i ih=>?_
   all_goals
    intro j d;rw[<-Bool.not_eq_false];intro hf;have f:j < ops.size:=by
     rw[<-N];apply Decidable.byContradiction;intro h;rw[Rz,BJ (by omega)]at hf;simp at hf
    have:j∈Region.ready md ops z:=by
     refine mem_ready.2 ⟨hf,ops[j],by simp,λe he hb=>?_⟩;have hl:=J j f e.on (by simp only[vc,AJ f,List.mem_map,MB];grind)
     first
     |omega
     |grind
    grind
  have a3:z=Array.replicate ops.size true:=by
   apply Array.ext
   .simpa using N
   .intro i R h2;have:=r i i (ij _);rw[Rz,AJ R]at this
    simpa using this
  grind
 .grind
 .by_cases f:j < ops.size
  .simp[dn,f]at d
  .simp[vc,BJ (Nat.le_of_not_lt f)]at m
end
inductive Nd
 |el (k:Nat)
 |tx (k:Nat)
 |cm (k:Nat)
 |dt (k:Nat)
def Nd.val:Nd->gP
 | .el k=> .iface 57 (gL k)
 | .tx k=> .iface 257 (gL k)
 | .cm k=> .iface 216 (gL k)
 | .dt k=> .iface 220 (gL k)
def Nd.one (n:Nd):n.val.oneCell'=true:=by cases n<;>rfl
def Un (ns:List Nd):∀x∈ns.map Nd.val,x.oneCell'=true:=by
 intro u d;obtain⟨x,_,rfl⟩:=List.mem_map.1 d;exact x.one
structure El (base:Nat) (w:gw) (k:Nat) (name:gz) (av:gP) (je:jg) (kv:gP) (ns:List Nd):Prop where
 iw:w.heap[k]?=some (gJ #[gI name,av,kh je,kv] 142)
 row:w.ownsRow base 183 1 kv ns.length (ns.map Nd.val)
 le:ns.length<=1048576
 TM:∃ao n c,av= .slice ao n c
def El.np {ns:List Nd} (h:El base w k name av je kv ns) (l:w.heap[b]?=some (gJ c t)) (n:t≠183):kv.ownBlock≠some b:=by
 intro d;rcases h.row.2 with⟨e,_⟩|⟨g,cap,f,e,_,m,_⟩
 .rw[e]at d;cases d
 .rw[e]at d;obtain rfl:=jK d
  grind
def El.kept {ns:List Nd} (h:El base w k name av je kv ns) (d:Kept S w w') (f:k∉S) (l:∀g,kv.ownBlock=some g->g∉S):El base w' k name av je kv ns:=
 ⟨d.at h.iw f,d.ownsRow h.row l,h.le,h.TM⟩
abbrev place (k n:Nat):gP:= .agg #[gL k,gp n]
def ade (base k:Nat) (name:gz) (av kv:gP) (je:jg) (ns:List Nd) (w:gw) (h:El base w k name av je kv ns):
  Calls prog 81 #[gL k] w λe w'=>e=ir (place k ns.length)/\Kept [] w w':=by
 obtain⟨ao,cap,rfl⟩:=gH h.row;have f:=fX h.iw 3;dsimp at f;have g:=jn h.iw;have d:=(Kept.refl [] w).alloc (gJ #[gL k,gp ns.length] 214);go_enter func81,ntmps81;go_wp2;refine qe (v:=place k ns.length) ?_ rfl ⟨rfl,d⟩;simp[results,results81,asAddr,Result.andThen,go_sem]
def Hn (base k:Nat) (name:gz) (av kv:gP) (je:jg) (ns:List Nd) (w:gw) (h:El base w k name av je kv ns):
  Calls prog 257 #[gL k] w λe w'=>e=ir (gL w.heap.size)/\El base w' w.heap.size name av none (jX) []/\Kept [] w w':=by
 have n:w.drew.cell? ⟨k,0,none⟩=some (gI name):=by show w.cell? _=_;rw[fX h.iw];rfl
 have o:w.drew.cell? ⟨k,1,none⟩=some av:=by show w.cell? _=_;rw[fX h.iw];rfl
 have f:=(Kept.refl [] w).drew.alloc (gJ #[gI name,av,.pointer none,jX] 142);have d:=(show El base (w.drew.alloc (gJ #[gI name,av,.pointer none,jX] 142)) w.heap.size name av none (jX) []from⟨fZ w.drew _,oY _ _ _ _,by simp,h.TM⟩);obtain⟨g,m,l,rfl⟩:=h.TM;go_enter func257,ntmps257
 go_wp21
 go_region;go_wp2;go_ret;exact⟨rfl,d,f⟩
def El.UB {d : gP} {ns f:List Nd} (h:El base w k name av je kv ns) (q:w'.heap[k]?=w.heap[k]?) (n:w'.ownsRow base 183 1 d f.length (f.map Nd.val)) (r:f.length<=1048576):El base (w'.setCell ⟨k,3,none⟩ d) k name av je d f:=by
 have m:=q.trans h.iw;refine⟨gh m 3 d,yx (a:=⟨k,3,none⟩) n ?_ _,r,h.TM⟩;intro l;rcases n.2 with⟨e,_⟩|⟨g,cap,o,e,_,s,_⟩
 .rw[e]at l;cases l
 .rw[e]at l;obtain rfl:=jK l
  grind
def El.Zq {ns:List Nd} (h:El base w k name av je kv ns) (p:jg):El base (w.setCell ⟨k,2,none⟩ (kh p)) k name av p kv ns:=
 ⟨gh h.iw 2 (kh p),yx (a:=⟨k,2,none⟩) h.row (h.np h.iw (by decide)) _,h.le,h.TM⟩
def kR {a : Addr} (h:b≠a.block):(w.setCell a u).cell? ⟨b,j,none⟩=w.cell? ⟨b,j,none⟩:=ZN (Below.heap_setCell w a u b h)
def UI {X e : TypeId} (d:prog.underlying X=some (.pointer e)) (v:gP) (f:TypeId) (w:gw):(Instr.typeAssert (.iface X v) f X true).run prog w= .ok (.tuple #[v,.bool true]) w:=by
 simp[Instr.typeAssert,pO d]
def Fj {X e : TypeId} (g:prog.underlying X=some (.pointer e)) (f:(prog.info? X).bind (·.zero)=some (.pointer none)) (d:T≠X) (v:gP) (h:TypeId) (w:gw):(Instr.typeAssert (.iface T v) h X true).run prog w= .ok (.tuple #[.pointer none,.bool false]) w:=by
 have⟨i,hi,f⟩:=Option.bind_eq_some_iff.1 f;simp[Instr.typeAssert,pO g,d,zeroValue,typeInfo,hi,f]
structure Xj (base k:Nat) (name:gz) (av kv:gP) (je:jg) (ns:List Nd) (w w':gw):Prop where
 ex:∃kv',El base w' k name av je kv' ns/\(kv'.ownBlock=kv.ownBlock\/∀g,kv'.ownBlock=some g->w.heap.size<=g)
 kept:Kept (k::kv.ownBlock.toList) w w'
def OJ (base k n:Nat) (name:gz) (av:gP) (je:jg) (ao:Option Addr) (cap:Nat) (ns:List Nd) (x:Nd) (q:TypeId) (o:gP) (w w1:gw) (h l m:Bool) (d:gP) (W:gw):Prop:=
 if m then Xj base k name av (.slice ao ns.length cap) je (ns.take n++[x]++ns.drop n) w W/\W.heap[w.heap.size]?=some (gJ #[gL k,gp n] 214)
 else if l then W.ownsRow base 183 1 d (ns.length+1) ((ns.map Nd.val).take n++[.iface q o]++(ns.map Nd.val).drop n)/\Kept (Value.slice ao ns.length cap).ownBlock.toList w1 W/\(d.ownBlock=(Value.slice ao ns.length cap).ownBlock\/∀g,d.ownBlock=some g->w1.heap.size+1<=g)
 else if h then ∃f,Kept [] w1 f/\f.heap.size=w1.heap.size/\W=f.alloc (gJ #[.iface q o] 183)
 else Kept [] w1 W/\W.heap.size=w1.heap.size
def OJ.iw {n : Nat} {ns:List Nd} {x:Nd} {s : TypeId} {r : gP} {d f g : Bool} {m : gP} (h:OJ base k n name av je ao cap ns x s r w w1 d f g m W) (l:w1.heap[w.heap.size]?=some (gJ #[gL k,gp n] 214)) (o:w.heap.size∉(Value.slice ao ns.length cap).ownBlock.toList):W.heap[w.heap.size]?=some (gJ #[gL k,gp n] 214):=by
 unfold OJ at h;split at h
 .exact h.2
 split at h
 .exact h.2.1.at l o
 split at h
 .obtain⟨y,q,_,rfl⟩:=h;exact(q.alloc _).at l (by simp)
 .exact h.1.at l (by simp)
def OJ.old {n : Nat} {ns:List Nd} {x:Nd} {m : TypeId} {l : gP} {d : Bool} {f : gP} (h:OJ base k n name av je ao cap ns x m l w w1 d false false f W):Kept [] w1 W:=by
 unfold OJ at h;simp only[wP,↓reduceIte]at h;split at h
 .obtain⟨o,g,_,rfl⟩:=h;exact g.alloc _
 grind
def abw {n : Nat} {ns:List Nd} {v' : gP} {f d : gw} (o:Kept [] w1 f) (r:f.heap.size=w1.heap.size) (m:W=f.alloc (gJ #[u] 183)) (l:d.ownsRow base 183 1 v' (ns.length+1) ((ns.map Nd.val).take n++[u]++(ns.map Nd.val).drop n)) (h:Kept (Value.slice ao ns.length cap).ownBlock.toList W d) (q:v'.ownBlock=(Value.slice ao ns.length cap).ownBlock\/∀k,v'.ownBlock=some k->W.heap.size<=k):
  d.ownsRow base 183 1 v' (ns.length+1) ((ns.map Nd.val).take n++[u]++(ns.map Nd.val).drop n)/\Kept (Value.slice ao ns.length cap).ownBlock.toList w1 d/\(v'.ownBlock=(Value.slice ao ns.length cap).ownBlock\/∀g,v'.ownBlock=some g->w1.heap.size+1<=g):=by
 subst m;refine⟨l,((o.alloc _).mono (by simp)).trans h,?_⟩
 simp_all
def abv {n : Nat} {f : Option Addr} {d : Nat} {ns:List Nd} {x:Nd} (h:El base w1 k name av je (.slice ao ns.length cap) ns) (J:Kept [] w w1) (X:w1.heap.size=w.heap.size+1) (H:w1.heap[w.heap.size]?=some (gJ #[gL k,gp n] 214)) (q:k∉(Value.slice ao ns.length cap).ownBlock.toList) (o:w.heap.size∉(Value.slice ao ns.length cap).ownBlock.toList) (U:n<=ns.length) (R:ns.length < 1048576) (m:w.heap.size≠k) (r:x.val=u)
  (V:W.ownsRow base 183 1 (.slice f (ns.length+1) d) (ns.length+1) ((ns.map Nd.val).take n++[u]++(ns.map Nd.val).drop n)) (l:Kept (Value.slice ao ns.length cap).ownBlock.toList w1 W) (N:(Value.slice f (ns.length+1) d).ownBlock=(Value.slice ao ns.length cap).ownBlock\/∀g,(Value.slice f (ns.length+1) d).ownBlock=some g->w1.heap.size+1<=g):
  Xj base k name av (.slice ao ns.length cap) je (ns.take n++[x]++ns.drop n) w (W.setCell ⟨k,3,none⟩ (.slice f (ns.length+1) d))/\(W.setCell ⟨k,3,none⟩ (.slice f (ns.length+1) d)).heap[w.heap.size]?=some (gJ #[gL k,gp n] 214):=by
 have s:(ns.take n++[x]++ns.drop n).length=ns.length+1:=by simp;omega
 have A:(ns.take n++[x]++ns.drop n).map Nd.val=(ns.map Nd.val).take n++[u]++(ns.map Nd.val).drop n:=by simp[r]
 have e2:=l.at h.iw q;have D:=l.at H o;refine⟨⟨⟨.slice f (ns.length+1) d,h.UB (e2.trans h.iw.symm) (by grind) (by omega),?_⟩,?_⟩,?_⟩
 .grind
 .exact((J.mono (S':=k::(Value.slice ao ns.length cap).ownBlock.toList) (by simp)).next l (λy I=> .inl (oX _ I))).setCell (p:=⟨k,3,none⟩) (.inl (by simp)) _
 .rw[Below.heap_setCell W ⟨k,3,none⟩ _ _ m];exact D
def Ur (base k n:Nat) (name:gz) (av kv:gP) (je:jg) (ns:List Nd) (x:Nd) (w:gw) (h:El base w k name av je kv ns) (Y:n<=ns.length) (hl:ns.length < 1048576) (hb:base<=w.heap.size) (Z:gw->Prop)
  (hZ:∀wc,Xj base k name av kv je (ns.take n++[x]++ns.drop n) w wc->match x with
   | .el j=>(∃p,wc.cell? ⟨j,2,none⟩=some p)/\wc.frozen? ⟨j,2,none⟩=false/\Z (wc.setCell ⟨j,2,none⟩ (gL k))
   |_=>Z wc):
  Calls prog 156 #[place k n,x.val] w λe w'=>e=p8/\Z w':=by
 have ad:=jn h.iw;have a0:=h.row.lt;obtain⟨w1,hw1⟩:∃w1,w1=w.alloc (gJ #[gL k,gp n] 214):=⟨_,rfl⟩;have k1:Kept [] w w1:=by rw[hw1];exact(Kept.refl _ _).alloc _
 have g1:w1.heap[w.heap.size]?=some (gJ #[gL k,gp n] 214):=by rw[hw1];exact fZ w _
 have z1:w1.heap.size=w.heap.size+1:=by rw[hw1];simp
 have R:=h.kept k1 (by simp) (by simp);obtain⟨ao,cap,rfl⟩:=gH h.row;have HI:∀W,Kept [] w1 W->W.heap.size=w1.heap.size->Calls prog 248 #[.slice ao ns.length cap,gp n,rh w1.heap.size 1 1] (W.alloc (gJ #[x.val] 183)) (InsB 183 base (.slice ao ns.length cap) ns.length n (ns.map Nd.val) x.val (W.alloc (gJ #[x.val] 183))):=by
  intro W kW zW;have k2:Kept [] w1 (W.alloc (gJ #[x.val] 183)):=kW.alloc _;have g2:=fZ W (gJ #[x.val] 183);rw[zW]at g2;exact ins_B (.inr ⟨rfl,rfl,rfl,rfl,rfl,rfl⟩) base ns.length n w1.heap.size _ x.val (ns.map Nd.val) _ (k2.ownsRow R.row (λ_ _=>by simp)) g2 (λe=>by grind) x.one (Un ns) Y h.le (by grind)
 have f:=fW hZ;have H1:=fW R;have o:=fW HI;have a1:=fW k1;have D:=fW g1;have a3:=fW z1;have aa:=fW a0;have I:=fW (show k∉(Value.slice ao ns.length cap).ownBlock.toList by simpa using R.np R.iw (by decide));have H:=fW (show w.heap.size∉(Value.slice ao ns.length cap).ownBlock.toList by grind);have a8:w.heap.size≠k:=by omega
 have a2:=fW hw1;clear h R HI hZ k1 g1 z1 a0 hw1;obtain⟨y,s,d⟩:∃y s,x.val= .iface y s:=by cases x<;>exact⟨_,_,rfl⟩
 rw[d]at o|-;go_enter func156,ntmps156
 go_wp21
 rw[<-a2.out]
 go_cut []from 6 to 19 (λwc=>Xj base k name av (.slice ao ns.length cap) je (ns.take n++[x]++ns.drop n) w wc/\wc.heap[w.heap.size]?=some (gJ #[gL k,gp n] 214))
 case first=>
  refine tw (by rfl) ?_;refine pN (λ(g:gP) z=>⟨#[place k n,.iface y s,gL w.heap.size,undef,undef,undef,cd z 0 (gL w.heap.size),cd z 1 (gL k),cd z 2 (gL w.heap.size),cd z 3 (gL k),cd z 4 (gL k),cd z 5 (jF k 3),cd z 6 (.slice ao ns.length cap),cd z 7 (jF w.heap.size 1),cd z 8 (gp n),cd z 9 (.iface y s),cd z 10 (rh w1.heap.size 1 1),cd z 11 (g),cd z 12 (gL k),cd z 13 (jF k 3),undef,undef,undef,undef,undef,undef,undef,undef,undef,undef,undef],[]⟩) (λg z W=>OJ base k n name av je ao cap ns x y s w w1 (dn z 10) (dn z 11) (dn z 14) g W) 15 [[],[0],[],[2],[3],[4],[5],[],[7],[],[9],[2,3,4,5,6,7,8,9,10],[1],[12],[0,1,2,3,4,5,6,7,8,9,10,11,12,13]] (undef) rfl (by rfl) (⟨(Kept.refl [] w1).drew,rfl⟩) ?_ ?_
  .repeat' first|exact mU|refine mQ ?_ ?_
   all_goals
    rintro g z W A U V;simp[BR]at U;refine kN rfl ?_;intro K' m;simp only[ld,U];have gB:=A.iw D H;have ab:W.cell? ⟨w.heap.size,0,none⟩=some (gL k):=by rw[fX gB];rfl
    have ac:W.cell? ⟨w.heap.size,1,none⟩=some (gp n):=by rw[fX gB];rfl
    have q:=A
    try simp only[U]at q
    try rw[V 14 (by decide)]at q
    try rw[V 11 (by decide)]at q
    try (have cK:W.cell? ⟨k,3,none⟩=some (.slice ao ns.length cap):=(by rw[fX (q.old.at H1.out.iw (by simp))];rfl))
    go_simp
    first
    |refine m _ _ ⟨g,?_,(by rw[oF (by decide),oF (by decide),oF (by decide)];exact A)⟩
    |have q:Kept [] w1 W/\W.heap.size=w1.heap.size:=q;refine m _ _ ⟨g,?_,(by rw[rS,oF (by decide),oF (by decide),V 11 (by decide),V 14 (by decide)];grind[OJ])⟩;simp[oC,vm,ld,U,q.2]
    |obtain⟨J,q1,q2,hq⟩:∃J,Kept [] w1 J/\J.heap.size=w1.heap.size/\W=J.alloc (gJ #[.iface y s] 183):=q;have C:=fW (o J q1 q2);rw[<-hq]at C;refine C.mono ?_;rintro e W2 ⟨v',rfl,a9,a7,a6⟩;refine m _ _ ⟨v',?_,(by rw[rS,oF (by decide),oF (by decide),V 14 (by decide)];exact abw q1 q2 hq a9 a7 a6)⟩
    |obtain⟨ho,hk,hf⟩:W.ownsRow base 183 1 g (ns.length+1) ((ns.map Nd.val).take n++[Value.iface y s]++(ns.map Nd.val).drop n)/\Kept (Value.slice ao ns.length cap).ownBlock.toList w1 W/\(g.ownBlock=(Value.slice ao ns.length cap).ownBlock\/∀b,g.ownBlock=some b->w1.heap.size+1<=b):=q;obtain⟨a4,N,rfl⟩:=gH ho;have gK:=hk.at H1.iw I;have cK:W.cell? ⟨k,3,none⟩=some (.slice ao ns.length cap):=(by rw[fX gK];rfl);have zK:=gG gK 3;go_simp;refine m _ _ ⟨.slice a4 (ns.length+1) N,?_,(by rw[rS];exact abv H1 a1 a3 D I H Y hl a8 d ho hk hf)⟩
    all_goals simp[oC,vm,ld,U]
  .rintro g W A;rw[xw,xw,xw]at A;simp only[uZ];rename_i JJ a5;refine a5 _ _ ?_;go_meet;exact A
 case rest=>
  have⟨hp,hbx⟩:=hcut;have l:=f _ hp;clear hp o H1 f;cases x with
  |el j=>
   have⟨⟨p,c2⟩,fz,l⟩:=l;have f:=fW l;injection d with e1 e2;subst e1 e2;have cb:wc.cell? ⟨w.heap.size,0,none⟩=some (gL k):=by rw[fX hbx];rfl
   have r:=UI (X:=57) underlying57;clear hbx l;go_wp2;go_end0;exact⟨rfl,f⟩
  |tx j=>
   have f:=fW l;injection d with e1 e2;subst e1 e2;have r:=Fj (X:=57) (T:=257) underlying57 rfl (by decide);clear l;go_wp2;go_end0;exact⟨rfl,f⟩
  |cm j=>
   have f:=fW l;injection d with e1 e2;subst e1 e2;have r:=Fj (X:=57) (T:=216) underlying57 rfl (by decide);clear l;go_wp2;go_end0;exact⟨rfl,f⟩
  |dt j=>
   have f:=fW l;injection d with e1 e2;subst e1 e2;have r:=Fj (X:=57) (T:=220) underlying57 rfl (by decide);clear l;go_wp2;go_end0;exact⟨rfl,f⟩
def Zd (base k n:Nat) (name:gz) (av kv:gP) (je:jg) (ns:List Nd) (x:Nd) (w:gw) (h:El base w k name av je kv ns) (g:n<=ns.length) (f:ns.length < 1048576) (d:base<=w.heap.size) (m:∀j,x≠ .el j):
  Calls prog 156 #[place k n,x.val] w λe w'=>e=p8/\Xj base k name av kv je (ns.take n++[x]++ns.drop n) w w':=by
 refine Ur base k n name av kv je ns x w h g f d _ λwc l=>?_
 grind
def S4 (base k n j:Nat) (name q:gz) (av kv m f:gP) (je l:jg) (ns r:List Nd) (w:gw) (h:El base w k name av je kv ns) (A:El base w j q m l f r) (D:j≠k) (V:∀g,f.ownBlock=some g->kv.ownBlock≠some g) (hn:n<=ns.length) (Z:ns.length < 1048576) (X:base<=w.heap.size):
  Calls prog 156 #[place k n,(Nd.el j).val] w λe w'=>e=p8/\(∃d,El base w' k name av je d (ns.take n++[.el j]++ns.drop n)/\(d.ownBlock=kv.ownBlock\/∀g,d.ownBlock=some g->w.heap.size<=g))/\El base w' j q m (some k) f r/\Kept (j::k::kv.ownBlock.toList) w w':=by
 refine Ur base k n name av kv je ns (.el j) w h hn Z X _ λwc J=>?_;have I:∀g,f.ownBlock=some g->g∉k::kv.ownBlock.toList:=by
  intro g Y o;rcases List.mem_cons.1 o with rfl|o
  .exact A.np h.iw (by decide) Y
  .grind
 have H:j∉k::kv.ownBlock.toList:=by
  intro o;rcases List.mem_cons.1 o with e|o
  .omega
  .exact h.np A.iw (by decide) (by grind)
 have s:=A.kept J.kept H I;have⟨d,E2,f2⟩:=J.ex;have R:wc.cell? ⟨j,2,none⟩=some (kh l):=by rw[fX s.iw];rfl
 have U:=gG s.iw 2;have N:El base (wc.setCell ⟨j,2,none⟩ (kh (some k))) k name av je d (ns.take n++[.el j]++ns.drop n):=
  ⟨by rw[Below.heap_setCell wc ⟨j,2,none⟩ _ k (xn D)];exact E2.iw,yx (a:=⟨j,2,none⟩) E2.row (E2.np s.iw (by decide)) _,E2.le,E2.TM⟩
 exact⟨⟨_,R⟩,U,⟨d,N,f2⟩,s.Zq (some k),(J.kept.mono (S':=j::k::kv.ownBlock.toList) (λy hy _=>oX _ hy)).setCell (p:=⟨j,2,none⟩) (.inl (by simp)) (kh (some k))⟩
def Yz:(prog.info? 183).map (λi=>(i.zero,i.size,i.bytes))=some (some (.nilIface),1,16):=by kernel_rfl
def Vz {l : List gP} {n : Nat} (d:i < j) (f:j<=n) (g:n<=l.length):
  ((l.take i++(l.take n).drop j++l.drop (i+(n - j))).take (n - (j - i)))=(l.take n).take i++(l.take n).drop j:=by
 have e:(l.take i++(l.take n).drop j).length=n - (j - i):=by simp;omega
 grind
def aav (g cap i j n:Nat) (f:jO) (w:gw) (o:w.heap[g]?=some (gJ f 183)) (a4:n<=cap) (X:f.size=cap) (hi:i < j) (hj:j<=n) (a3:n<=1048576)
  (h1:∀u∈f.toList.take n,u.oneCell'=true):
  Calls prog 370 #[rh g n cap,gp i,gp j] w λe w'=>e=ir (rh g (n - (j - i)) cap)/\
   ∃q,w'.heap[g]?=some (gJ q 183)/\q.size=cap/\q.toList.take (n - (j - i))=(f.toList.take n).take i++(f.toList.take n).drop j/\Kept [g] w w':=by
 obtain⟨i0,R,a5,Z,a6⟩:=vp Yz;obtain⟨d,m⟩:∃d,d=(f.toList.take n).drop j:=⟨_,rfl⟩;have r:d.length=n - j:=by rw[m];simp;omega
 have I:∀t u,d[t]?=some u->f[j+t]?=some u:=by
  intro t u D;rw[m,UR,Eh]at D;split at D
  .grind
  .cases D
 obtain⟨A,hA,J⟩:∃A:Addr,(if cap=j then some (⟨g,0,none⟩:Addr)else some ⟨g,j,none⟩)=some A/\Hid (∀t u,d[t]?=some u->w.drew.cell? (A.add t)=some u):=by
  by_cases h:cap=j
  .refine⟨⟨g,0,none⟩,by simp[h],λt u D=>?_⟩
   grind
  .refine⟨⟨g,j,none⟩,by simp[h],λt u D=>?_⟩;rw[show(⟨g,j,none⟩:Addr).add t=⟨g,j+t,none⟩from by unfold Addr.add;simp];exact(fX o _).trans (I t u D)
 have s1:Hid (d.length=(n - j)*1):=by rw[Kh];exact r
 have s2:Hid (∀u∈d,u.oneCell'=true):=λu D=>h1 u (Rt (m▸D));have s3:Hid (∀t,t < d.length->(w.drew.cell? ⟨g,0+i*1+t,none⟩).isSome=true/\w.drew.frozen? ⟨g,0+i*1+t,none⟩=false):=by
  intro t Y;rw[r]at Y;refine⟨?_,gG o _⟩;show(w.cell? _).isSome=true;rw[fX o,AJ (by omega)];rfl
 obtain⟨y,s⟩:∃y,y=w.drew.setCells g (0+i*1) d:=⟨_,rfl⟩;have H:y.heap[g]?=some (gJ (jW f (0+i*1) d) 183):=by rw[s];exact nF d w.drew g f _ _ _ o
 have N:Kept [g] w y:=by rw[s];exact Kept.setCells (.inl (by simp)) d _ (Kept.refl _ _).drew
 have a0:∀ty,(Builtin.clear_ #[140] ty #[.slice (some ⟨g,i+(n - j),none⟩) (n - (i+(n - j))) (cap - (i+(n - j)))]).run prog y= .ok (.tuple #[]) (y.setCells g (i+(n - j)) (List.replicate (n - (i+(n - j))) (.nilIface))):=
  λty=>Lib.run_clear_slice y _ _ ty _ underlying140 Tryz.zeroValue183 rfl rfl g (i+(n - j)) _ _ (by omega) (λt Y=>by rw[fX H,AJ (by rw[kU];omega)];rfl) (λt Y=>gG H _)
 have HB:=nF (List.replicate (n - (i+(n - j))) (Value.nilIface)) y g _ _ _ (i+(n - j)) H;have HK:=Kept.setCells (S:=[g]) (a:=w) (b:=g) (.inl (by simp)) (List.replicate (n - (i+(n - j))) (Value.nilIface)) (i+(n - j)) N;have U:(jW f (0+i*1) d).toList=f.toList.take (0+i*1)++d++f.toList.drop (0+i*1+d.length):=nI _ _ _ (by omega);have V:=nI (List.replicate (n - (i+(n - j))) (Value.nilIface)) (jW f (0+i*1) d) (i+(n - j)) (by rw[kU];grind);have HF:(jW (jW f (0+i*1) d) (i+(n - j)) (List.replicate (n - (i+(n - j))) (Value.nilIface))).toList.take (n - (j - i))=(f.toList.take n).take i++(f.toList.take n).drop j:=by
  rw[V,BI,ZM (by simp[kU];omega),U,r,m];rw[US,Nat.min_eq_left (by omega)];have:=Vz (l:=f.toList) hi hj (by grind)
  simpa using this
 have HW:=fW s;have a1:i<=cap:=by omega
 have a2:j<=cap:=by omega
 clear s;go_enter func370,ntmps370
 go_wp21
 go_region_law (refine step_append_room rfl (.tmp 22) (.tmp 25) 140 rfl 183 i0 1 underlying140 R Z g 0 i cap (by simp[Act.eval,Act.put]) A (n - j) (cap - j) d (by simp[Act.eval,Act.put]) s1 J s2 (by omega) s3 ?_;rw[<-HW.out])
 go_wp2;go_ret;exact⟨by rw[show n - (j - i)=i+(n - j) by omega];rfl,_,HB,by rw[kU,kU];exact X,HF,HK⟩
def Nd.iw:Nd->Nat
 | .el k=>k
 | .tx k=>k
 | .cm k=>k
 | .dt k=>k
def Nd.typ:Nd->TypeId
 | .el _=>142
 | .tx _=>260
 | .cm _=>218
 | .dt _=>222
def zQ (w:gw) (x:Nd):Prop:=∃c,w.heap[x.iw]?=some (gJ c x.typ)
def Nd.gX (j:Nat):Nd->Bool
 | .el k=>k==j
 |_=>false
variable {ns : List Nd}
def ndc:(prog.info? 57).map (λi=>i.comparable)=some true:=by kernel_rfl
def ED {U : TypeId} (f:T≠U) (w:gw):(binOp .eql 183 (.iface T v) (.iface U u)).run prog w= .ok (.bool false) w:=by
 have h:∀d:Nat,(Op.equalIn (d+1) 183 (.iface T v) (.iface U u)).run prog w= .ok false w:=λd=>by simp[Op.equalIn,pO underlying183,f]
 simp only[binOp];simp[Op.equal,Op.maxDepth,h 9999]
def adf {x : Nd} (l:zQ w x) (g:zQ w (.el j)):
  (binOp .eql 183 x.val (Nd.el j).val).run prog w= .ok (.bool (x.gX j)) w:=by
 obtain⟨i,f,d⟩:=Option.map_eq_some_iff.1 ndc;have⟨q,hq,hqs⟩:=Option.map_eq_some_iff.1 TY;cases x with
 |el k=>
  by_cases h:k=j
  .subst h;have e:(Nd.el k).gX k=true:=by simp[Nd.gX]
   rw[e];exact run_eql_iface_ptr_same (P:=prog) w (⟨k,0,none⟩:Addr) underlying183 underlying57 f d hq
  .have⟨ca,ha⟩:=l;have⟨cb,hb⟩:=g;have e:(Nd.el k).gX j=false:=by simp[Nd.gX,h]
   rw[e];exact run_eql_iface_ptr_other (P:=prog) w (a:=⟨k,0,none⟩) (b:=⟨j,0,none⟩) underlying183 underlying57 f d hq (by omega) (by simp[h]) ha hb
 |tx k=>exact ED (by decide) w
 |cm k=>exact ED (by decide) w
 |dt k=>exact ED (by decide) w
def Fm (x:Nd):∃T v,x.val= .iface T (.pointer v):=by cases x<;>exact⟨_,_,rfl⟩
def PG (f j:Nat) (x:Nd) (w:gw) (l:w.cell? ⟨f,0,none⟩=some (gL j)) (h:zQ w x) (g:zQ w (.el j)):
  Calls prog 355 #[x.val,gL f] w λe w'=>e=ir (.bool (x.gX j))/\w'=w:=by
 have d:=adf h g;have⟨T,p,hv⟩:=Fm x;rw[hv]at d|-;unfold Nd.val at d;generalize x.gX j=r at d|-;go_enter func355,ntmps355;go_wp2;go_ret;simp
def qg (ns:List Nd) (p:Nd->Bool):Int:=if ns.findIdx p < ns.length then (ns.findIdx p:Int)else -1
def abl {p : Nd->Bool} (f:k < ns.length) (g:p ns[k]=true) (d:∀j,(hj:j < ns.length)->j < k->p ns[j]=false):qg ns p=k:=by
 grind[qg]
def abm {p : Nd->Bool} (d:∀j,(hj:j < ns.length)->p ns[j]=false):qg ns p= -1:=by
 grind[qg]
def aaN (kv:gP) (ns:List Nd) (base o j:Nat) (w:gw) (ho:w.ownsRow base 183 1 kv ns.length (ns.map Nd.val)) (Y:∀x∈ns,zQ w x) (U:zQ w (.el j)) (R:w.cell? ⟨o,0,none⟩=some (gL j)) (V:ns.length<=1048576):
  Calls prog 354 #[kv,.func (.func 355) #[] #[gL o]] w λe w'=>e=ir (gp (qg ns (Nd.gX j)))/\w'=w:=by
 have H:=(λx hx=>PG o j x w R (Y x hx) U);rcases ho.2 with⟨rfl,N⟩|⟨g,cap,q,rfl,_,l,Z,_,_,h⟩
 .have n:ns=[]:=Xa N;subst n;go_enter func354,ntmps354;go_wp2;refine vo 1 ?_;rw[oW];go_wp2;go_ret;simp[qg]
 .have I:∀k,(r:k < ns.length)->w.cell? ⟨g,k,none⟩=some ns[k].val:=by
   intro k r;rw[fX l];have:(q.toList.take (ns.length*1))[k]?=some ns[k].val:=by rw[h];simp[r]
   rw[Eh]at this;split at this
   .grind
   .omega
  go_enter func354,ntmps354;go_wp2
  go_loopw [8] (λi wr=>∃k:Nat,k<=ns.length/\i=gp k/\wr=w/\∀m,(s:m < ns.length)->m < k->(ns[m]).gX j=false) (λi _=>ns.length - (intOf i).toNat)
  case atStart=>grind
  case round=>
   obtain⟨k,r,rfl,rfl,D⟩:=hrel
   by_cases f:k < ns.length
   .have J:=I k f;have d:=H ns[k] (uP f);have⟨T,p,hv⟩:=Fm ns[k];rw[hv]at J d;cases hq:(ns[k]).gX j with
    |true=>
     rw[hq]at d;have y:=fW (abl f hq D)
     go_wp21
     refine d.mono ?_;rintro e w' ⟨rfl,A⟩;subst A;go_wp2;go_ret;exact⟨by rw[y.out];rfl,rfl⟩
    |false=>
     rw[hq]at d;have HQ:=hq
     go_wp21
     refine d.mono ?_;rintro e w' ⟨rfl,A⟩;subst A;go_wp2;go_roundw
     case rel=>
      refine⟨k+1,by omega,by go_num,by simp,λm s X=>?_⟩
      grind
     case measure=>simp[intOf];omega
   .have y:=fW (abm (ns:=ns) (p:=Nd.gX j) (λm s=>D m s (by omega)));go_wp2;go_ret;exact⟨by rw[y.out];rfl,rfl⟩
def IU (base k j:Nat) (name:gz) (av kv:gP) (je:jg) (ns:List Nd) (w:gw) (h:El base w k name av je kv ns) (o:∀x∈ns,zQ w x) (m:zQ w (.el j)):
  Calls prog 332 #[gL k,gL j] w λe w'=>e=ir (gp (qg ns (Nd.gX j)))/\Kept [] w w':=by
 have d:Kept [] w (w.alloc (gJ #[gL j] 57)):=(Kept.refl _ _).alloc _;have s:=fZ w (gJ #[gL j] 57);have f:∀x,zQ w x->zQ (w.alloc (gJ #[gL j] 57)) x:=λx ⟨c,l⟩=>⟨c,d.at l (by simp)⟩;have H:=aaN kv ns base w.heap.size j _ (d.ownsRow h.row (λ_ _=>by simp)) (λx r=>f x (o x r)) (f _ m) (by simp) h.le;have g:=fX h.iw 3;dsimp at g;have n:=jn h.iw;obtain⟨ao,cap,rfl⟩:=gH h.row;generalize qg ns (Nd.gX j)=q at H|-;go_enter func332,ntmps332
 go_wp21
 refine H.mono ?_;rintro e w' ⟨rfl,rfl⟩;go_wp2;go_ret
 simp_all
def I5 (h:El base w k name av je kv ns) {m : Nat} (n:m < ns.length):∃g cap,kv=rh g ns.length cap/\w.cell? ⟨g,m,none⟩=some ns[m].val:=by
 rcases h.row.2 with⟨_,q⟩|⟨g,cap,l,rfl,_,f,o,_,_,d⟩
 .omega
 .refine⟨g,cap,rfl,?_⟩;rw[fX f];have:(l.toList.take (ns.length*1))[m]?=some ns[m].val:=by rw[d];simp[n]
  grind
def Lf (base k m l:Nat) (name d s:gz) (av kv:gP) (je:jg) (ns:List Nd) (w:gw) (h:El base w k name av je kv ns) (N:m < ns.length) (U:ns[m]= .tx l) (R:w.heap[l]?=some (gJ #[gI d] 260)) (a4:d.size+s.size<=1048576):
  Calls prog 163 #[place k (m+1),gI s] w λe w'=>e=p8/\w'.heap[l]?=some (gJ #[gI (d++s)] 260)/\Kept [l] w w':=by
 obtain⟨g,cap,rfl,V⟩:=I5 h N;rw[U]at V;have a1:=jn h.iw;have a6:=jn R;have a2:=h.le;obtain⟨w1,f⟩:∃w1,w1=w.alloc (gJ #[gL k,gp ((m+1:Nat))] 214):=⟨_,rfl⟩;have n:Kept [] w w1:=by rw[f];exact(Kept.refl _ _).alloc _
 have H:w1.heap[w.heap.size]?=some (gJ #[gL k,gp ((m+1:Nat))] 214):=by rw[f];exact fZ w _
 have I:=h.kept n (by simp) (by simp);have o:=n.at R (by simp);have r:=fX H 0;have y:=fX H 1;have A:=fX I.iw 3;dsimp at r y A;have Y:w1.cell? ⟨g,m,none⟩=some (Nd.tx l).val:=by
  have⟨g',cap',e,c⟩:=I5 I N;injection e with e1;injection e1 with e2;injection e2 with e3;rw[e3,c,U]
 unfold Nd.val at Y;have D:=fX o 0;have fT:=gG o 0;dsimp at D;have a5:=UI (X:=257) underlying257;have q:=fW f;have a3:(m:Int) < ns.length:=by omega
 clear f;go_enter func163,ntmps163
 go_wp21
 rw[show((m+1:Nat):Int)=(m:Int)+1 by omega]at q;rw[<-q.out]
 go_quiet (fail)
 have Z:(w1.drewN nq).cell? ⟨l,0,none⟩=some (gI d):=D;have a0:(w1.drewN nq).frozen? ⟨l,0,none⟩=false:=fT;have J:=run_string_add_sum (P:=prog) (w1.drewN nq) d s (by omega);have HB:=gh (w:=w1.drewN nq) o 0 (gI (d++s));have HK:=((n.mono (S':=[l]) (by simp)).drewN nq).setCell (p:=⟨l,0,none⟩) (.inl (by simp)) (gI (d++s));go_wp2;refine qe (Ki rfl _ _ _) rfl ?_
 grind
def N1 (base k n:Nat) (name s:gz) (av kv:gP) (je:jg) (ns:List Nd) (w:gw) (h:El base w k name av je kv ns) (hn:n<=ns.length) (Q:gw->Prop) (f:∀w1,Kept [] w w1->Calls prog 156 #[place k n,(Nd.tx w1.heap.size).val] (w1.alloc (gJ #[gI s] 260)) λe w'=>e=p8/\Q w') (hx:∀m,(H:m < ns.length)->n=m+1->∀t,ns[m]≠ .tx t):
  Calls prog 163 #[place k n,gI s] w λe w'=>e=p8/\Q w':=by
 have a1:=jn h.iw;have a2:=h.le;obtain⟨w1,d⟩:∃w1,w1=w.alloc (gJ #[gL k,gp n] 214):=⟨_,rfl⟩;have J:Kept [] w w1:=by rw[d];exact(Kept.refl _ _).alloc _
 have R:w1.heap[w.heap.size]?=some (gJ #[gL k,gp n] 214):=by rw[d];exact fZ w _
 have U:=h.kept J (by simp) (by simp);have A:=fX R 0;have o:=fX R 1;dsimp at A o;have l:=fW d;have r:w1.heap.size=w.heap.size+1:=by rw[d];simp
 by_cases h0:n=0
 .subst h0;have V:=f w1 J;rw[r,d]at V;have y:=(show Calls prog 156 #[.agg #[gL k,gp 0],.iface 257 (gL (w.heap.size+1))] ((w.alloc (gJ #[gL k,gp 0] 214)).alloc (gJ #[gI s] 260)) (λe w'=>e=p8/\Q w')from V);clear d r;go_enter func163,ntmps163
  go_wp21
  refine y.mono ?_;rintro e w' ⟨rfl,HR⟩;go_wp2;go_end0
  grind
 .obtain⟨m,rfl⟩:∃m,n=m+1:=⟨n - 1,by omega⟩;have H:m < ns.length:=by omega
  have a4:=hx m H rfl;have⟨g,cap,hkv,c4⟩:=I5 U H;subst hkv;have D:=fX U.iw 3;dsimp at D;have I:∀(Z:TypeId) (w:gw),(Instr.typeAssert ns[m].val Z 257 true).run prog w= .ok (.tuple #[.pointer none,.bool false]) w:=by
   intro Z w;cases hq:ns[m]with
   |tx t=>grind
   |el t=>exact Fj (X:=257) underlying257 rfl (by decide) _ _ _
   |cm t=>exact Fj (X:=257) underlying257 rfl (by decide) _ _ _
   |dt t=>exact Fj (X:=257) underlying257 rfl (by decide) _ _ _
  have y:∀q,Calls prog 156 #[.agg #[gL k,gp ((m:Int)+1)],.iface 257 (gL w1.heap.size)] ((w1.drewN q).alloc (gJ #[gI s] 260)) (λe w'=>e=p8/\Q w'):=
   λq=>f (w1.drewN q) (J.drewN q)
  have⟨xt,xp,hxv⟩:=Fm ns[m];rw[hxv]at c4 I;have a3:(m:Int) < ns.length:=by omega
  have N:w1.cell? ⟨w.heap.size,1,none⟩=some (gp ((m:Int)+1)):=o;have Y:w.heap.size < w1.heap.size:=by omega
  rw[show((m+1:Nat):Int)=(m:Int)+1 by omega]at l;have a0:=fW r;clear d r;go_enter func163,ntmps163
  go_wp21
  rw[<-l.out]
  go_quiet (fail)
  go_wp21
  refine(y nq).mono ?_;rintro e w' ⟨rfl,HR⟩;go_wp2;go_end0
  grind
def zQ.kept {x : Nd} (h:zQ w x) (d:Kept [] w w'):zQ w' x:=by
 have⟨c,hc⟩:=h;exact⟨c,d.at hc (by simp)⟩
def El.VW (h:El base w k name av je kv ns):zQ w (.el k):=⟨_,h.iw⟩
def MP (w:gw) (o:Obj):∃W,W=w.alloc o/\Kept [] w W/\W.heap[w.heap.size]?=some o/\W.heap.size=w.heap.size+1:=⟨_,rfl,(Kept.refl _ _).alloc _,fZ w _,by simp⟩
def Yl (base j:Nat) (name:gz) (av kv:gP) (ns:List Nd) (w:gw) (h:El base w j name av none kv ns):
  Calls prog 302 #[gL j] w λe w'=>e=ir (.tuple #[.agg #[.pointer none,gp 0],.bool false])/\Kept [] w w':=by
 have g:w.cell? ⟨j,2,none⟩=some (.pointer none):=(fX h.iw 2).trans rfl;have f:=jn h.iw;have d:=(Kept.refl [] w).alloc (gJ #[.pointer none,gp 0] 214);go_enter func302,ntmps302;go_wp2;refine qe (v:= .tuple #[.agg #[.pointer none,gp 0],.bool false]) ?_ rfl ⟨rfl,d⟩;simp[results,results302,asAddr,Result.andThen,go_sem]
def VP (base j p:Nat) (name r:gz) (av kv n o:gP) (f:jg) (ns d:List Nd) (w:gw) (h:El base w j name av (some p) kv ns) (Z:El base w p r n f o d) (Y:∀x∈d,zQ w x):
  Calls prog 302 #[gL j] w λe w'=>e=ir (.tuple #[.agg #[gL p,gp (qg d (Nd.gX j))],.bool true])/\Kept [] w w':=by
 have⟨w1,hw1,HK1,HG1,z1⟩:=MP w (gJ #[.pointer none,gp 0] 214);have c2:w1.cell? ⟨j,2,none⟩=some (gL p):=(fX (HK1.at h.iw (by simp)) 2).trans rfl;have X:=jn h.iw;have l:j≠w.heap.size:=by omega
 have J:=(λ(W:gw) (I:Kept [] w W)=>IU base p j r n o f d W (Z.kept I (by simp) (λ_ _=>by simp)) (λx hx=>(Y x hx).kept I) (h.VW.kept I));have R:w.cell? ⟨j,2,none⟩=some (gL p):=(fX h.iw 2).trans rfl;have D:=fW hw1;have N:=h.iw;clear hw1;generalize qg d (Nd.gX j)=q at J|-;go_enter func302,ntmps302
 go_wp21
 rw[<-D.out]
 go_region_held3 (λw'=>w'.cell? ⟨j,2,none⟩=some (gL p)) ((first|assumption|go_keep|exact(kR l).trans (by assumption)|exact(kR l).trans ((kR l).trans (by omega)))) ((go_at_call 332;refine(J _ HK1.drew).mono ?_;rintro e s ⟨rfl,g⟩;have H:Kept [] w s:=HK1.drew.trans g;have d2:s.cell? ⟨j,2,none⟩=some (gL p):=(fX (H.at N (by simp)) 2).trans rfl;have m:s.heap[w.heap.size]?=some (gJ #[.pointer none,gp 0] 214):=((Kept.refl [] w1).drew.trans g).at HG1 (by simp);have e0:s.cell? ⟨w.heap.size,0,none⟩=some (.pointer none):=(fX m 0).trans rfl;have e1:s.cell? ⟨w.heap.size,1,none⟩=some (gp 0):=(fX m 1).trans rfl;have y0:=gG m 0;have y1:=gG m 1;have y:=fW m;have A:=fW H;clear m H g))
 all_goals (try (go_wp21))
 have U:=gh (gh y 0 (gL p)) 1 (gp q);have V:=fX U;refine qe (v:= .tuple #[.agg #[gL p,gp q],.bool true]) ?_ rfl ⟨rfl,(A.setCell (p:=⟨w.heap.size,0,none⟩) (.inr (ij _)) _).setCell (p:=⟨w.heap.size,1,none⟩) (.inr (ij _)) _⟩;simp[results,results302,asAddr,Result.andThen,go_sem,V]
def Tr (base j:Nat) (name:gz) (av kv:gP) (ns:List Nd) (w:gw) (h:El base w j name av none kv ns):
  Calls prog 358 #[gL j] w λe w'=>e=p8/\w'=w:=by
 have d:w.cell? ⟨j,2,none⟩=some (.pointer none):=(fX h.iw 2).trans rfl;go_enter func358,ntmps358;go_wp2;go_end0;simp
def aby {g : Nat} {f d : jO} (m:i < ns.length) (h:base<=g) (l:w'.heap[g]?=some (gJ d 183)) (A:d.size=cap) (y:ns.length<=cap) (o:cap<=maxLen) (q:f.toList.take ns.length=ns.map Nd.val) (r:d.toList.take (ns.length - 1)=(f.toList.take ns.length).take i++(f.toList.take ns.length).drop (i+1)):
  w'.ownsRow base 183 1 (rh g (ns.length - 1) cap) (ns.eraseIdx i).length ((ns.eraseIdx i).map Nd.val):=by
 have n:(ns.eraseIdx i).length=ns.length - 1:=by rw[ZR m]
 have s:(ns.eraseIdx i).map Nd.val=(f.toList.take ns.length).take i++(f.toList.take ns.length).drop (i+1):=by
  rw[q,List.eraseIdx_eq_take_drop_succ,ru,List.map_take,List.map_drop]
 refine⟨by simp,.inr ⟨g,cap,d,by rw[n],h,l,by omega,o,by omega,?_⟩⟩
 grind
def TF (base p i g cap:Nat) (r:gz) (n:gP) (m:jg) (f:List Nd) (l:jO) (w:gw) (o q:Bool) (W:gw):Prop:=
 if q then (∃h,El base W p r n m h (f.eraseIdx i)/\h.ownBlock=some g)/\Kept [p,g] w W else if o then Kept [g] w W/\∃d,W.heap[g]?=some (gJ d 183)/\d.size=cap/\d.toList.take (f.length - 1)=(l.toList.take f.length).take i++(l.toList.take f.length).drop (i+1)else Kept [] w W
def TF.any {p g : Nat} {o : gz} {f : gP} {d : jg} {q : List Nd} {n : jO} {l m : Bool} (h:TF base p i g cap o f d q n w l m W):Kept [p,g] w W:=by
 unfold TF at h;split at h
 .exact h.2
 split at h
 .exact h.1.mono (by simp)
 .exact h.mono (by simp)
def Gp (base j p i:Nat) (name I:gz) (av kv y s:gP) (o:jg) (ns d:List Nd) (w:gw) (h:El base w j name av (some p) kv ns) (D:El base w p I y o s d) (hn:∀x∈d,zQ w x) (a8:j≠p) (a4:∀g,kv.ownBlock=some g->s.ownBlock≠some g) (hi:i < d.length) (N:qg d (Nd.gX j)=(i:Int)):
  Calls prog 358 #[gL j] w λe w'=>e=p8/\(∃n,El base w' p I y o n (d.eraseIdx i)/\n.ownBlock=s.ownBlock)/\El base w' j name av none kv ns/\Kept (j::p::s.ownBlock.toList) w w':=by
 obtain⟨g,cap,f,rfl,a5,m,r,a9,aa,a0⟩:∃g cap f,s=rh g d.length cap/\base<=g/\w.heap[g]?=some (gJ f 183)/\d.length<=cap/\cap<=maxLen/\f.size=cap/\f.toList.take d.length=d.map Nd.val:=by
  rcases D.row.2 with⟨_,e0⟩|⟨g,cap,f,e,hb,m,r,hm,hs,ht⟩
  .omega
  .exact⟨g,cap,f,e,hb,m,r,hm,by omega,by grind⟩
 have CI:=fW (IU base p j I y _ o d w D hn h.VW);rw[N]at CI;have a7:g≠p:=by have:=D.np D.iw (by decide);simpa [Value.ownBlock]using this
 have a6:g≠j:=by have:=D.np h.iw (by decide);simpa [Value.ownBlock]using this
 have c2:w.cell? ⟨j,2,none⟩=some (gL p):=(fX h.iw 2).trans rfl;have CD:Hid (∀(W:gw),Kept [] w W->Calls prog 370 #[rh g d.length cap,gp i,gp ((i:Int)+1)] W λe w'=>e=ir (rh g (d.length - 1) cap)/\
   ∃l,w'.heap[g]?=some (gJ l 183)/\l.size=cap/\l.toList.take (d.length - 1)=(f.toList.take d.length).take i++(f.toList.take d.length).drop (i+1)/\Kept [g] W w'):=fW (λW hk=>by
  rw[show((i:Int)+1)=((i+1:Nat):Int) by omega];have al:=aav g cap i (i+1) d.length f W (hk.at m (by simp)) r aa (by omega) (by omega) D.le (by rw[a0];exact Un d)
  rwa [show i+1 - i=1 by omega]at al)
 have ap:(0:Int)<=(i:Int):=by omega
 have an:(i:Int) < 1048576:=by have:=D.le;omega
 have H:=fW h;have V:=fW D;have ab:=fW a4;have aj:=fW r;have ai:=fW a9;have ak:=fW a0;have HI:=fW hi;have ac:=fW a5;have U:=fW a8;have ae:=fW a7;have R:=fW a6;clear h D hn a4 r a9 a0 hi a5 a8 a7 a6 m aa N;go_enter func358,ntmps358
 go_wp21
 refine CI.out.mono ?_;rintro e w1 ⟨rfl,A⟩;have ag:=fW A;have d2:w1.cell? ⟨j,2,none⟩=some (gL p):=(fX (A.at H.out.iw (by simp)) 2).trans rfl;have d3:w1.cell? ⟨p,3,none⟩=some (rh g d.length cap):=(fX (A.at V.out.iw (by simp)) 3).trans rfl;clear A c2
 go_wp21
 refine tw (by rfl) ?_;refine pN (λ(u:Unit) z=>⟨#[gL j,undef,gp i,gL j,gL j,jF j 2,gL p,.bool true,gL j,gL j,jF j 2,gL p,gL j,gp i,cd z 0 (gL j),cd z 1 (gL j),cd z 2 (jF j 2),cd z 3 (gL p),cd z 4 (gL j),cd z 5 (gL j),cd z 6 (jF j 2),cd z 7 (gL p),cd z 8 (gL p),cd z 9 (jF p 3),cd z 10 (rh g d.length cap),cd z 11 (gp i),cd z 12 (gp i),cd z 13 (gp ((i:Int)+1)),cd z 14 (rh g (d.length - 1) cap),cd z 15 (gL p),cd z 16 (jF p 3),undef,undef,undef],[]⟩) (λu z W=>TF base p i g cap I y o d f w (dn z 14) (dn z 17) W) 18 [[],[0],[1],[2],[],[4],[5],[6],[7],[8],[9],[],[],[12],[4,5,6,7,8,9,10,11,12,13],[3],[15],[0,1,2,3,4,5,6,7,8,9,10,11,12,13,14,15,16]] (()) rfl rfl (ag.out.drew) ?_ ?_
 .repeat' first|exact mU|refine mQ ?_ ?_
  all_goals
   rintro u z W hI hc hn;simp[BR]at hc;refine kN rfl ?_;intro K' X;simp only[ld,hc];have c0:W.cell? ⟨j,2,none⟩=some (gL p):=(fX (hI.any.at H.out.iw (by have:=R.out;have:=U.out;simp;omega)) 2).trans rfl;have q:=hI
   try simp only[hc]at q
   try rw[hn 17 (by decide)]at q
   try rw[hn 14 (by decide)]at q
   try (have q:Kept [] w W:=q;have c3:W.cell? ⟨p,3,none⟩=some (rh g d.length cap):=(fX (q.at V.out.iw (by simp)) 3).trans rfl)
   go_simp
   try rw[show IntKind.i64.wrap ((i:Int)+1)=(i:Int)+1 by rw[IntKind.wrap_i64];omega]
   first
   |refine X _ _ ⟨u,?_,(by rw[oF (by decide),oF (by decide)];exact hI)⟩
   |refine(CD.out W q).mono ?_;rintro e w2 ⟨rfl,l,Y,a1,Z,am⟩;refine X _ _ ⟨u,?_,(by rw[rS,oF (by decide),hn 17 (by decide)];exact⟨(Kept.mono q (by simp)).trans am,l,Y,a1,Z⟩)⟩
   |have⟨q,l,Y,a1,Z⟩:=q;have g2:=q.at V.out.iw (by have:=ae.out;simp;omega);have c3:W.cell? ⟨p,3,none⟩=some (rh g d.length cap):=(fX g2 3).trans rfl;have y3:=gG g2 3;go_simp;refine X _ _ ⟨u,?_,(by rw[rS];exact⟨⟨_,V.out.UB (g2.trans V.out.iw.symm) (aby HI.out ac.out Y a1 aj.out ai.out ak.out Z) (by rw[ZR HI.out];have:=V.out.le;omega),rfl⟩,(Kept.mono q (by simp)).setCell (p:=⟨p,3,none⟩) (.inl (by simp)) _⟩)⟩
   simp[oC,vm,ld,hc]
 .rintro u W hI;rw[xw,xw]at hI;simp only[uZ];have⟨⟨n,hE,ho⟩,hk⟩:=hI;have J:=H.out.kept hk (by have:=R.out;have:=U.out;simp;omega) (λx hx=>by
   have h1:=ab.out x hx;have h2:=H.out.np V.out.iw (by decide);rw[hx]at h2;simp[Value.ownBlock]at h1 h2;simp;omega)
  have ad:=fW hE;have a2:=fW ho;have ah:=fW hk;have af:=fW (J.Zq none);have j2:W.cell? ⟨j,2,none⟩=some (gL p):=(fX J.iw 2).trans rfl;have z2:=gG J.iw 2;clear hE ho hk J;rename_i KK a3;refine a3 _ _ ?_;clear a3 KK;go_wp2;go_end0;refine⟨rfl,⟨n,ad.out.kept ((Kept.refl [j] W).setCell (p:=⟨j,2,none⟩) (.inl (by simp)) _) (by have:=U.out;simp;omega) (λx hx=>?_),a2.out⟩,af.out,?_⟩
  .rw[a2.out]at hx;have e:=jK hx;have:=R.out;simp;omega
  .refine(ah.out.mono (S':=j::p::[g]) ?_).setCell (p:=⟨j,2,none⟩) (.inl (by simp)) _;simp
structure zp where
 name:gz
 gV:kY
 je:jg
 kids:List Nd
inductive Bj
 |el (e:zp)
 |tx (s:gz)
 |cm (s:gz)
 |dt (s:gz)
structure Ab where
 nodes:List Bj
 gA:kO
 act:kO
 head:jg
 form:jg
 mode:Nat
 kept:Nat
 waiting:List (Nat×Nat×gz)
 iS:Bool
 jL:Bool
 gQ:Nat
 behind:Bool
 nC:gz
 iZ:Bool
 fresh:Bool
 pQ:Nat
 qO:Nat
 oZ:Nat
inductive pG (α:Type)
 |ok (a:α) (σ:Ab)
 |stop (e:Nat) (gQ:Nat)
 |stuck
def M (α:Type):=Ab->pG α
namespace M
def pure {α:Type} (a:α):M α:=λσ=> .ok a σ
def bind {α d:Type} (m:M α) (f:α->M d):M d:=λσ=>match m σ with
 | .ok a σ'=>f a σ'
 | .stop e p=> .stop e p
 | .stuck=> .stuck
instance :Monad M where
 pure:=M.pure
 bind:=M.bind
end M
def M.gy {α d:Type} (m:M α) (f:α->M d) (σ:Ab):(m>>=f) σ=match m σ with
 | .ok a σ'=>f a σ'
 | .stop e p=> .stop e p
 | .stuck=> .stuck:=rfl
def stuck {α:Type}:M α:=λ_=> .stuck
def wG (f:Ab->Ab):M Unit:=λσ=> .ok () (f σ)
def Ab.ib (σ:Ab) (i:Nat):Option zp:=match σ.nodes[i]? with
 |some (.el e)=>some e
 |_=>none
def Ab.gX (σ:Ab) (x:jg):Bool:=match x with
 |none=>true
 |some i=>(σ.ib i).isSome
def Ab.mF (σ:Ab) (x:jg):Bool:=match x with
 |none=>false
 |some i=>(σ.ib i).isSome
def Ab.vz {σ:Ab} (h:σ.mF x=true):σ.gX x=true:=by
 cases x with
 |none=>rfl
 |some i=>exact h
def Ab.ji (σ:Ab):Nd->Bool
 | .el i=>(σ.ib i).isSome
 | .tx i=>match σ.nodes[i]? with|some (.tx _)=>true|_=>false
 | .cm i=>match σ.nodes[i]? with|some (.cm _)=>true|_=>false
 | .dt i=>match σ.nodes[i]? with|some (.dt _)=>true|_=>false
def Ab.ic (σ:Ab) (i:Nat) (e:zp):Ab:={σ with nodes:=σ.nodes.set i (.el e)}
def Ab.add (σ:Ab) (n:Bj):Ab:={σ with nodes:=σ.nodes++[n]}
def Ab.pn (σ:Ab) (n:Bj) (d:Bool):Ab:={σ with nodes:=σ.nodes++[n],fresh:=d}
variable {σ : Ab}
def acE:gz:=fY
def acD:gz:=gE
def nj (s:gz):Bool:=kA s acE||kA s acD
structure Wf (σ:Ab):Prop where
 gA:∀x∈σ.gA,σ.mF x=true
 act:∀x∈σ.act,σ.gX x=true
 head:σ.gX σ.head=true
 form:σ.gX σ.form=true
 je:∀i e,σ.ib i=some e->σ.gX e.je=true
 kids:∀i e,σ.ib i=some e->∀k∈e.kids,σ.ji k=true
 xb:(σ.ib 0).isSome=true
def Ab.il {e : zp} (h:σ.ib i=some e):i < σ.nodes.length:=by
 unfold Ab.ib at h
 grind
def Ab.jo {e : zp} (h:σ.ib i=some e):σ.nodes[i]?=some (.el e):=by
 unfold Ab.ib at h
 grind
def Ab.R9 {e : zp} (h:σ.nodes[i]?=some (.el e)):σ.ib i=some e:=by
 grind[Ab.ib]
def words (s:gz):List gz:=(Lib.fields s.data.toList).map λl=>⟨l.toArray⟩
def y8 (L:List (gz×gP)) (ks:List gz) (v:gP):List (gz×gP):=ks.foldl (λL k=>Ck L k v) L
def Qn (L:List (gz×gP)) (ks:List gz) (v:gP) (n:Nat) (d:n < ks.length):y8 L (ks.take (n+1)) v=Ck (y8 L (ks.take n) v) ks[n] v:=by
 unfold y8;rw[ZL d,List.foldl_append];rfl
abbrev sM (w:gw):Prop:=Lib.TabIs prog w "strings.asciiSpace" .u8 Lib.asciiSpaceTab
def pT (s:gz):Bool:=decide (s.size < 4096)&&s.data.toList.all (λb=>decide (b.toNat < 128))&&decide ((words s).length<=4096)
def LQ (s:gz) (w:gw) (d:pT s=true) (g:sM w):
  Calls prog 154 #[gI s] w λe w'=>e=ir (rh w.heap.size (words s).length (words s).length)/\w'=w.alloc (gJ ((words s).map Value.string).toArray 9):=by
 unfold pT at d;simp only[rR,MC,RD]at d;have h:=Tryz.strings_Fields s w (by omega) (λj b f=>d.1.2 b (tu f)) g;refine h.mono ?_;rintro e w' ⟨rfl,rfl⟩;have e1:(words s).length=(Lib.fields s.data.toList).length:=by simp[words]
 refine⟨by rw[e1],?_⟩
 congr 2
 simp[words]
def aeN (b:Nat) (s:gz) (v:gP) (L:List (gz×gP)) (w:gw) (o:pT s=true) (N:sM w) (J:sK w b L):
  Calls prog 84 #[.map (some b),gI s,v] w λe w'=>e=ir (.map (some b))/\sK w' b (y8 L (words s) v)/\Kept [b] w w':=by
 have m:(words s).length<=4096:=by
  unfold pT at o;simp only[rR,MC]at o;exact o.2
 have D:=LQ s w o N;have I:=J;clear o N J;generalize words s=d at D m|-;go_enter func84,ntmps84
 go_wp21
 refine D.mono ?_;rintro e w1 ⟨rfl,h⟩;have U:w1.heap[w.heap.size]?=some (gJ (d.map Value.string).toArray 9):=by rw[h];exact fZ w _
 have H:Kept [] w w1:=by rw[h];exact(Kept.refl _ _).alloc _
 have y:=I.kept H (by simp);have R:b≠w.heap.size:=by have:=I.lt;omega
 clear h;go_wp2
 go_loopw [12] (λi wr=>∃k:Nat,k<=d.length/\i=gp k/\sK wr b (y8 L (d.take k) v)/\Kept [b] w wr/\wr.heap[w.heap.size]?=some (gJ (d.map Value.string).toArray 9)) (λi _=>d.length - (intOf i).toNat)
 case atStart=>exact⟨0,iP _,rfl,y,H.mono (by simp),U⟩
 case round=>
  obtain⟨k,Y,rfl,g,l,f⟩:=hrel
  by_cases n:k < d.length
  .have X:wr.cell? ⟨w.heap.size,k,none⟩=some (gI d[k]):=by rw[fX f];simp[n]
   have⟨w2,r2,HM2,k2,z2⟩:=QM (T:=145) (E:=143) (by simp) g d[k] v;have r:=l.trans k2;have q:=k2.at f (by grind);have HS:=fW (Qn L d v k n);clear g l f k2 z2;go_wp2;go_roundw
   case rel=>exact⟨k+1,by omega,by go_num,by rw[HS.out];exact HM2,r,q⟩
   case measure=>simp[intOf];omega
  .have A:k=d.length:=by omega
   have V:=(show sK wr b (y8 L d v) by grind);clear g f A;go_wp2;go_ret
   simp_all
def Be (L:List (gz×Nat)):List (gz×gP):=L.map λp=>(p.1,gp p.2)
def wS:List (gz×Nat)->gz->Nat
 |[],_=>0
 |p::L,k=>if kA k p.1 then p.2 else wS L k
def Qr:List (gz×Nat)->gz->Nat->List (gz×Nat)
 |[],k,v=>[(k,v)]
 |p::L,k,v=>if kA k p.1 then (k,v)::L else p::Qr L k v
def IG:∀(L:List (gz×Nat)) (k:gz),(zL (Be L) k).getD (gp 0)=gp (wS L k)
 |[],_=>rfl
 |p::L,k=>by
  show(if kA k p.1 then some (Value.int .i64 (p.2:Int))else zL (Be L) k).getD _=_;unfold wS;split
  .rfl
  .exact IG L k
def Qs:∀(L:List (gz×Nat)) (k:gz) (v:Nat),Ck (Be L) k (gp v)=Be (Qr L k v)
 |[],_,_=>rfl
 |p::L,k,v=>by
  show(if kA k p.1 then (k,Value.int .i64 (v:Int))::Be L else (p.1,Value.int .i64 (p.2:Int))::Ck (Be L) k _)=_;unfold Qr;split
  .rfl
  .rw[Qs L k v];rfl
def LW:∀(L:List (gz×Nat)) (k:gz) (v:Nat) (s:gz),wS (Qr L k v) s=if kA s k then v else wS L s
 |[],k,v,s=>rfl
 |p::L,k,v,s=>by
  unfold Qr
  by_cases d:kA k p.1=true
  .grind[wS,kA,Qr]
  .rw[gR d];unfold wS;rw[LW L k v s]
   grind[kA]
def uW (L:List (gz×Nat)) (c:Nat) (ks:List gz):List (gz×Nat):=ks.foldl (λL k=>Qr L k (wS L k|||c)) L
def Vf (L:List (gz×Nat)) (ks:List gz) (c n:Nat) (d:n < ks.length):uW L c (ks.take (n+1))=Qr (uW L c (ks.take n)) ks[n] (wS (uW L c (ks.take n)) ks[n]|||c):=by
 unfold uW;rw[ZL d,List.foldl_append];rfl
def afo:∀a c:Fin 16,a.1|||c.1 < 16:=by decide
def sO {c : Nat} (d:c < 16) (ks:List gz):∀(L:List (gz×Nat)),(∀s,wS L s < 16)->∀s,wS (uW L c ks) s < 16:=by
 induction ks with
 |nil=>simp[uW]
 |cons k ks ih=>
  intro L h;refine ih _ λs=>?_;rw[LW];split
  .exact afo ⟨_,h k⟩ ⟨c,d⟩
  grind
def adK:∀a c:Fin 16,IntKind.i64.wrap (((BitVec.ofInt 64 (a.1:Int))|||(BitVec.ofInt 64 (c.1:Int))).toNat:Int)=((a.1|||c.1:Nat):Int):=by decide
def aae:∀a c:Fin 16,IntKind.i64.wrap (((BitVec.ofInt 64 (a.1:Int))&&& (BitVec.ofInt 64 (c.1:Int))).toNat:Int)=((a.1&&& c.1:Nat):Int):=by decide
def aak (a c:Nat) (d:a < 16) (f:c < 16):bits .or .i64 (a:Int) (c:Int)=((a|||c:Nat):Int):=adK ⟨a,d⟩ ⟨c,f⟩
def XE (a c:Nat) (d:a < 16) (f:c < 16):bits .and .i64 (a:Int) (c:Int)=((a&&& c:Nat):Int):=aae ⟨a,d⟩ ⟨c,f⟩
def acT (b:Nat) (s:gz) (c:Nat) (L:List (gz×Nat)) (w:gw) (H:pT s=true) (ht:sM w) (hm:sK w b (Be L)) (hc:c < 16) (hL:∀s,wS L s < 16):
  Calls prog 77 #[.agg #[.map (some b)],gp c,gI s] w λe w'=>e=p8/\sK w' b (Be (uW L c (words s)))/\Kept [b] w w':=by
 have y:(words s).length<=4096:=by
  unfold pT at H;simp only[rR,MC]at H;exact H.2
 have N:Kept [] w (w.alloc (gJ #[.map (some b)] 137)):=(Kept.refl _ _).alloc _;have Y:=fZ w (gJ #[.map (some b)] 137);have HF:=LQ s (w.alloc (gJ #[.map (some b)] 137)) H (Lib.tabIs_alloc ht _);have HM:=hm.kept N (by simp);have a0:=hm.lt;have HL:=hL;clear H ht hm hL;generalize words s=d at HF y|-;obtain⟨J,o⟩:∃J,J=w.alloc (gJ #[.map (some b)] 137):=⟨_,rfl⟩;go_enter func77,ntmps77
 go_wp21
 refine HF.mono ?_;rintro e w1 ⟨rfl,l⟩;rw[<-o]at l Y N HM;have X:J.heap.size=w.heap.size+1:=by rw[o];simp
 have HG:w1.heap[w.heap.size+1]?=some (gJ (d.map Value.string).toArray 9):=by rw[l,<-X];exact fZ J _
 have R:Kept [] J w1:=by rw[l];exact(Kept.refl _ _).alloc _
 have U:=R.at Y (by simp);have HK:=N.trans R;have V:=HM.kept R (by simp);clear l R N Y;go_wp2
 go_loopw [11] (λi wr=>∃k:Nat,k<=d.length/\i=gp k/\sK wr b (Be (uW L c (d.take k)))/\Kept [b] w wr/\wr.heap[w.heap.size+1]?=some (gJ (d.map Value.string).toArray 9)/\wr.heap[w.heap.size]?=some (gJ #[.map (some b)] 137)) (λi _=>d.length - (intOf i).toNat)
 case atStart=>exact⟨0,iP _,rfl,V,HK.mono (by simp),HG,U⟩
 case round=>
  obtain⟨k,hk,rfl,h,n,g,f⟩:=hrel
  by_cases D:k < d.length
  .have c1:wr.cell? ⟨w.heap.size+1,k,none⟩=some (gI d[k]):=by rw[fX g];simp[D]
   have c2:=fX f 0;dsimp at c2;have m:=sO hc (d.take k) L HL d[k];have A:=Fc (T:=135) (E:=159) (z:=gp 0) (by simp) (by simp) h d[k];rw[IG]at A;have r:=aak _ c m hc;have⟨w2,r2,HM2,k2,z2⟩:=QM (T:=135) (E:=159) (by simp) h d[k] (gp ((wS (uW L c (d.take k)) d[k]|||c:Nat):Int));rw[Qs,<-Vf L d c k D]at HM2;have a3:=n.trans k2;have a2:=k2.at g (by grind);have a1:=k2.at f (by grind);obtain⟨q,hq⟩:∃q,q=wS (uW L c (d.take k)) d[k]:=⟨_,rfl⟩;rw[<-hq]at A r r2;obtain⟨q2,I⟩:∃q2:Nat,q2=q|||c:=⟨_,rfl⟩;rw[<-I]at r r2;clear h n g f k2 z2 hq I m;go_wp2;go_roundw
   case rel=>grind
   case measure=>simp[intOf];omega
  .have Z:k=d.length:=by omega
   have a4:=(show sK wr b (Be (uW L c d)) by grind);clear h g Z f;go_wp2;go_end0
   grind
def Rq:List gz:=[j3,ug,tk,jD,jh,iq]
def Ee:List gz:=[fY,gU,jp,iR,jh,gE,mZ,jR,me,mf,oz,qG,kK,lA,lB,mJ,iM,hU,jD,j3,ug,tk,gg,gx,gm,iq,gq,gu,gr,ie,iy,iA,gW,iY,jE]
def J9:List gz:=[lA,lB,kK,gO,gn,mZ]
def UM:List gz:=[fY,gg,iy,iA,gx,gW]
def BW:List (gz×Nat):=uW (uW (uW (uW [] 1 Rq) 2 Ee) 4 J9) 8 UM
def sM.kept (h:sM w) (l:Kept S w w') (g:1∉S):sM w':=by
 unfold sM Lib.TabIs World.var? at *;have e:prog.globalNamed "strings.asciiSpace"=some 1:=rfl;simp only[e,Option.bind_some]at h|-;have d:1 < w.heap.size:=by
  rcases rA 1 w.heap.size with f|f
  .exact f
  .grind
 rw[l.block _ d g];exact h
def GL (b:Nat) (s:gz) (c:Nat) (L:List (gz×Nat)) (ks:List gz) (w:gw) (l:pT s=true) (d:words s=ks) (m:sM w) (h:sK w b (Be L)) (g:c < 16) (f:∀s,wS L s < 16):
  Calls prog 77 #[.agg #[.map (some b)],gp c,gI s] w λe w'=>e=p8/\sK w' b (Be (uW L c ks))/\Kept [b] w w':=by
 rw[<-d];exact acT b s c L w l m h g f
def Qa:∀s,wS [] s < 16:=λ_=>Nat.zero_lt_succ 15
def K9 (w:gw) (ht:sM w):
  Calls prog 48 #[] w λe w'=>∃bm,e=ir (.agg #[.map (some bm)])/\sK w' bm (Be BW)/\Kept [] w w'/\w.heap.size<=bm:=by
 have a8:=@run_makeMap prog;obtain⟨W,f⟩:∃W,W=((w.alloc (gJ #[.map none] 137)).alloc (.map #[] 0)).alloc (gJ #[.map (some (w.heap.size+1))] 137):=⟨_,rfl⟩;have kW:Kept [] w W:=by rw[f];exact(((Kept.refl _ _).alloc _).alloc _).alloc _
 have H0:W.heap[w.heap.size]?=some (gJ #[.map none] 137):=by
  rw[f,Below.heap_alloc _ _ _ (by simp;omega),Below.heap_alloc _ _ _ (by simp)];exact fZ w _
 have g1:W.heap[w.heap.size+1]?=some (.map #[] 0):=by
  rw[f,Below.heap_alloc _ _ _ (by simp)];have:=fZ (w.alloc (gJ #[.map none] 137)) (.map #[] 0)
  rwa [ry]at this
 have H2:W.heap[w.heap.size+1+1]?=some (gJ #[.map (some (w.heap.size+1))] 137):=by
  rw[f];have:=fZ ((w.alloc (gJ #[.map none] 137)).alloc (.map #[] 0)) (gJ #[.map (some (w.heap.size+1))] 137)
  rwa [ry,ry]at this
 have HM:sK W (w.heap.size+1) (Be []):=⟨#[],0,g1,rfl⟩;have s:1∉[w.heap.size+1]:=by
  have a7:1 < w.heap.size:=by
   have h:=ht;unfold sM Lib.TabIs World.var? at h;have e:prog.globalNamed "strings.asciiSpace"=some 1:=rfl;simp only[e,Option.bind_some]at h;rcases rA 1 w.heap.size with h'|h'
   .exact h'
   .grind
  intro r;have:=List.mem_singleton.1 r;omega
 have HT:=ht.kept kW (by simp);have HK:=kW.mono (S':=[w.heap.size+1]) (by simp);have HW:=fW f;clear f;go_enter func48,ntmps48
 go_wp21
 rw[<-HW.out];refine(GL (w.heap.size+1) _ 1 [] Rq W (by rfl) (by rfl) HT HM (by decide) Qa).mono ?_;rintro e w1 ⟨rfl,a0,y⟩;have n:=HT.kept y s;have U:=HK.trans y;have I:=y.at H0 (by simp);have g:=fW (y.at H2 (by simp));have c1:=fX g.out 0;dsimp at c1
 go_wp21
 refine(GL (w.heap.size+1) _ 2 (uW [] 1 Rq) Ee w1 rfl rfl n a0 (by decide) (sO (by decide) _ _ Qa)).mono ?_;rintro e w2 ⟨rfl,a1,A⟩;have o:=n.kept A s;have V:=U.trans A;have J:=A.at I (by simp);have l:=fW (A.at g (by simp));have c2:=fX l.out 0;dsimp at c2
 go_wp21
 refine(GL (w.heap.size+1) _ 4 (uW (uW [] 1 Rq) 2 Ee) J9 w2 (by rfl) (by rfl) o a1 (by decide) (sO (by decide) _ _ (sO (by decide) _ _ Qa))).mono ?_;rintro e w3 ⟨rfl,a2,D⟩;have q:=o.kept D s;have X:=V.trans D;have N:=D.at J (by simp);have m:=fW (D.at l (by simp));have c3:=fX m.out 0;dsimp at c3
 go_wp21
 refine(GL (w.heap.size+1) _ 8 (uW (uW (uW [] 1 Rq) 2 Ee) 4 J9) UM w3 (by rfl) (by rfl) q a2 (by decide) (sO (by decide) _ _ (sO (by decide) _ _ (sO (by decide) _ _ Qa)))).mono ?_;rintro e w4 ⟨rfl,a3,H⟩;have a6:=q.kept H s;have Y:=X.trans H;have d:=fW (H.at N (by simp));have R:=fW (H.at m (by simp));have c4:=fX R.out 0;have f4:=gG d 0;have a5:=fX d.out 0;dsimp at c4 a5;have Z:=(Y.mono (S':=[]) (λk hk hl=>by grind)).setCell (p:=⟨w.heap.size,0,none⟩) (.inr (ij _)) (.map (some (w.heap.size+1)));have a4:=a3.keeps (w':=w4.setCell ⟨w.heap.size,0,none⟩ (.map (some (w.heap.size+1)))) (Below.heap_setCell w4 ⟨w.heap.size,0,none⟩ _ _ (by simp));have c5:=fX (gh d 0 (.map (some (w.heap.size+1)))) 0;go_wp2;refine qe (v:= .agg #[.map (some (w.heap.size+1))]) ?_ rfl ⟨w.heap.size+1,rfl,a4,Z,by omega⟩;simp[results,f48,go_sem,c5]
def isC (L:List (gz×Nat)) (c:Nat) (s:gz):Bool:=decide (wS L s&&& c≠0)
def lc:gz->Bool:=isC BW 2
def uK:gz->Bool:=isC BW 4
def iQ:gz->Bool:=isC BW 8
def aar:∀s,wS BW s < 16:=sO (by decide) _ _ (sO (by decide) _ _ (sO (by decide) _ _ (sO (by decide) _ _ Qa)))
def aaf (h l bm c:Nat) (L:List (gz×Nat)) (w:gw) (o:w.heap[h]?=some (gJ #[.map (some bm)] 137)) (A:w.heap[l]?=some (gJ #[gp c] 159)) (r:sK w bm (Be L)) (R:c < 16) (D:∀s,wS L s < 16):
  nR [h,l,bm] (.func (.func 78) #[] #[gL h,gL l]) (isC L c) w:=by
 refine⟨⟨_,_,rfl,enters_of func78 (by rfl) rfl,λW m s=>?_⟩,λe H=>?_⟩
 .have J:=fX (nZ m (by simp) o) 0;have N:=fX (nZ m (by simp) A) 0;dsimp at J N;have f:=Fc (T:=135) (E:=159) (z:=gp 0) (by simp) (by simp) (r.keeps (m bm (by simp))) s;rw[IG]at f;have d:=XE _ c (D s) R;have I:isC L c s=decide (wS L s&&& c≠0):=rfl;rw[I];generalize wS L s=q at f d|-;obtain⟨n,g⟩:∃n:Nat,n=q&&& c:=⟨_,rfl⟩;rw[<-g]at d|-;clear o A r m D g I;show Calls prog 78 #[gI s,gL h,gL l] W _
  by_cases y:n=0
  .subst y;go_enter func78,ntmps78;go_wp2;go_ret;simp
  .have o:¬((n:Int)=0):=by omega
   rw[vn y];go_enter func78,ntmps78;go_wp2;go_ret
   simp_all
 .simp at H;rcases H with rfl|rfl|rfl
  .grind
  .grind
  .exact r.lt
def aa3 (bB:Nat) (d:Int) (w:gw):
  Calls prog 88 #[gL bB,gp d] w λe w'=>e=ir (.func (.func 161) #[] #[gL w.heap.size,gL (w.heap.size+1)])/\w'=((w.alloc (gJ #[gL bB] 93)).alloc (gJ #[gp d] 154)):=by
 go_enter func88,ntmps88;go_wp2;go_ret;simp
def NF (bB:Nat) (f:Fn) (d g:jO) (w:gw):
  Calls prog 80 #[gL bB,.func f d g] w λe w'=>e=ir (.func (.func 155) #[] #[gL w.heap.size])/\w'=(w.alloc (gJ #[.func f d g] 190)):=by
 go_enter func80,ntmps80;go_wp2;go_ret;simp
def NH (bB:Nat) (f:Fn) (d g:jO) (w:gw):
  Calls prog 112 #[gL bB,.func f d g] w λe w'=>e=ir (.func (.func 208) #[] #[gL (w.heap.size+1),gL w.heap.size])/\w'=((w.alloc (gJ #[gL bB] 93)).alloc (gJ #[.func f d g] 70)):=by
 go_enter func112,ntmps112;go_wp2;go_ret;simp
def aa4 (f:Fn) (d g:jO) (w:gw):
  Calls prog 116 #[.func f d g] w λe w'=>e=ir (.func (.func 213) #[] #[gL w.heap.size])/\w'=(w.alloc (gJ #[.func f d g] 70)):=by
 go_enter func116,ntmps116;go_wp2;go_ret;simp
def NI (bB:Nat) (f:Fn) (d g:jO) (w:gw):
  Calls prog 124 #[gL bB,.func f d g] w λe w'=>e=ir (.func (.func 218) #[] #[gL w.heap.size,gL (w.heap.size+1)])/\w'=((w.alloc (gJ #[gL bB] 93)).alloc (gJ #[.func f d g] 143)):=by
 go_enter func124,ntmps124;go_wp2;go_ret;simp
def PZ (bB:Nat) (f:Fn) (d g:jO) (h:Int) (w:gw):
  Calls prog 109 #[gL bB,.func f d g,gp h] w λe w'=>e=ir (.func (.func 205) #[] #[gL w.heap.size,gL (w.heap.size+1),gL (w.heap.size+1+1)])/\w'=(((w.alloc (gJ #[gL bB] 93)).alloc (gJ #[.func f d g] 150)).alloc (gJ #[gp h] 154)):=by
 go_enter func109,ntmps109;go_wp2;go_ret;simp
def NJ (bB:Nat) (f:Fn) (d g:jO) (l:gz) (h:Int) (w:gw):
  Calls prog 111 #[gL bB,.func f d g,gI l,gp h] w λe w'=>e=ir (.func (.func 207) #[] #[gL w.heap.size,gL (w.heap.size+1),gL (w.heap.size+1+1),gL (w.heap.size+1+1+1)])/\w'=((((w.alloc (gJ #[gL bB] 93)).alloc (gJ #[.func f d g] 150)).alloc (gJ #[gI l] 9)).alloc (gJ #[gp h] 154)):=by
 go_enter func111,ntmps111;go_wp2;go_ret;exact⟨by simp,rfl⟩
def Hg:List TypeId:=[157,142,183,260,57,97,275,132,106,147,59]
def U6:List TypeId:=[157,142,183,260,57,97,275,132,147]
def OI (h:t∈U6):t∈Hg:=by
 revert t;decide
def Calm (w:gw) (e:Nat):Prop:=(∃f d,w.heap[e]?=some (.map f d))\/∃c t,w.heap[e]?=some (gJ c t)/\t∉Hg
def Fr (bs:Nat) (w w':gw):Prop:=∃S,Kept S w w'/\∀k∈S,k < w.heap.size->(∃c t m,w.heap[k]?=some (.cells c t m)/\t∈U6)/\bs<=k
def Fr.gZ (h:Kept [] w w'):Fr bs w w':=⟨[],h,λ_ d=>by cases d⟩
def Fr.refl (w:gw):Fr bs w w:= .gZ (Kept.refl _ _)
def Fr.size (h:Fr bs w w'):w.heap.size<=w'.heap.size:=by have⟨S,hk,_⟩:=h;exact hk.size
def Fr.calm (h:Fr bs w w') (l:Calm w e):w'.heap[e]?=w.heap[e]?:=by
 have⟨S,hk,hS⟩:=h;have d:e < w.heap.size:=by
  rcases l with⟨o,n,f⟩|⟨c,t,f,_⟩
  .grind
  .grind
 refine hk.block e d λq=>?_;have⟨⟨c,t,m,h2,ht⟩,_⟩:=hS e q d;rcases l with⟨o,n,f⟩|⟨r,s,f,g⟩
 .grind
 .rw[f]at h2;simp at h2;exact g (by rw[h2.2.1];exact OI ht)
def Fr.trans {b c : gw} (h:Fr bs a b) (k:Fr bs b c):Fr bs a c:=by
 have⟨S1,k1,h1⟩:=h;have⟨S2,k2,h2⟩:=k;refine⟨S1++S2,(k1.mono (λx f _=>by simp[f])).trans (k2.mono (λx f _=>by simp[f])),λx f d=>?_⟩
 by_cases g:x∈S1
 .grind
 .have l:x∈S2:=by simpa [g]using f
  have⟨⟨cc,t,m,hc,ht⟩,hbs⟩:=h2 x l (lU d k1.size);exact⟨⟨cc,t,m,(k1.block x d g).symm.trans hc,ht⟩,hbs⟩
def Fr.jT (h:Kept S w w') (d:∀k∈S,(∃c t m,w.heap[k]?=some (.cells c t m)/\t∈U6)/\bs<=k):Fr bs w w':=⟨S,h,λk f _=>d k f⟩
def Fr.cell (h:Fr bs w w') (d:w.heap[e]?=some (gJ c t)) (f:t∉Hg):w'.heap[e]?=some (gJ c t):=(h.calm (.inr ⟨c,t,d,f⟩)).trans d
def Fr.kept (h:Fr bs w w') (d:Kept [] a w) (l:a.heap.size<=bs):Kept [] a w':=by
 have⟨S,hS,hT⟩:=h;refine⟨hS.os.trans d.os,hS.tape.trans d.tape,hS.output.trans d.output,jN d.size hS.size,λk f _=>?_⟩;refine(hS.block k (lU f d.size) λg=>?_).trans (d.block k f (by simp));have:=(hT k g (lU f d.size)).2;omega
def Fr.zv (h:Fr bs w w') {m : Nat×Nat} (f:w.heap[e]?=some (.cells c t m)) (l:t∉U6):w'.heap[e]?=some (.cells c t m):=by
 have⟨S,hS,hT⟩:=h;have d:e < w.heap.size:=(Array.getElem?_eq_some_iff.1 f).1;refine(hS.block e d λg=>?_).trans f
 grind
def xL (bm:Nat) (w:gw) (e:Nat):Prop:=(e=bm/\∃f d,w.heap[e]?=some (.map f d))\/∃c t,w.heap[e]?=some (gJ c t)/\t∉Hg
def vS (bm:Nat) (w w':gw):Prop:=∃S,Kept S w w'/\∀k∈S,k < w.heap.size->(∃c t m,w.heap[k]?=some (.cells c t m)/\t∈Hg)\/((∃f d,w.heap[k]?=some (.map f d))/\k≠bm)
def Fr.n (h:Fr bs w w') (bm:Nat):vS bm w w':=by
 have⟨S,hk,hS⟩:=h;exact⟨S,hk,λk d f=>by have⟨⟨c,t,m,h3,h4⟩,_⟩:=hS k d f;exact .inl ⟨c,t,m,h3,OI h4⟩⟩
def vS.gZ (h:Kept [] w w'):vS bm w w':=(Fr.gZ (bs:=0) h).n bm
def vS.refl (bm:Nat) (w:gw):vS bm w w:= .gZ (Kept.refl _ _)
def vS.size (h:vS bm w w'):w.heap.size<=w'.heap.size:=by have⟨S,hk,_⟩:=h;exact hk.size
def vS.of_map (h:Kept [b] w w') (l:∃f d,w.heap[b]?=some (.map f d)) (g:b≠bm):vS bm w w':=⟨[b],h,λk m _=>by grind⟩
def vS.calm (h:vS bm w w') (g:xL bm w e):w'.heap[e]?=w.heap[e]?:=by
 have⟨S,hk,hS⟩:=h;have f:e < w.heap.size:=by
  rcases g with⟨_,o,n,d⟩|⟨c,t,d,_⟩
  .grind
  .grind
 refine hk.block e f λA=>?_;rcases hS e A f with⟨c,t,m,y,I⟩|⟨⟨s,r,y⟩,D⟩
 .rcases g with⟨_,o,n,d⟩|⟨q,H,d,l⟩
  all_goals grind
 .rcases g with⟨e1,o,n,d⟩|⟨q,H,d,l⟩
  all_goals grind
def xL.fr (d:xL bm w e) (h:vS bm w w'):xL bm w' e:=by
 have e1:=h.calm d
 grind[xL]
def vS.trans {b c : gw} (h:vS bm a b) (k:vS bm b c):vS bm a c:=by
 have⟨S1,k1,h1⟩:=h;have⟨S2,k2,h2⟩:=k;refine⟨S1++S2,(k1.mono (λx d _=>by simp[d])).trans (k2.mono (λx d _=>by simp[d])),λx d g=>?_⟩
 by_cases f:x∈S1
 .grind
 .have l:x∈S2:=by simpa [f]using d
  have e:=k1.block x g f
  grind
def vS.cell (h:vS bm w w') (d:w.heap[e]?=some (gJ c t)) (f:t∉Hg):w'.heap[e]?=some (gJ c t):=(h.calm (.inr ⟨c,t,d,f⟩)).trans d
def xN (w:gw):Prop:=sM w/\∃c t,w.heap[1]?=some (gJ c t)/\t∉Hg
def xN.fr (d:xN w) (h:vS bm w w'):xN w':=by
 have⟨hb1,c,t,hc,ht⟩:=d;have e1:=h.calm (.inr ⟨c,t,hc,ht⟩);refine⟨?_,c,t,e1.trans hc,ht⟩;unfold sM Lib.TabIs World.var? at hb1|-;have e:prog.globalNamed "strings.asciiSpace"=some 1:=rfl
 grind
def Ask (bm:Nat) (v:gP) (p:gz->Bool) (w:gw):Prop:=∃E,nR E v p w/\∀e∈E,xL bm w e
def Ask.fr (h:Ask bm v p w) (d:vS bm w w'):Ask bm v p w':=by
 have⟨E,hA,hC⟩:=h;exact⟨E,hA.keeps (λk g=>d.calm (hC k g)) d.size,λe f=>(hC e f).fr d⟩
def Ask.call (h:Ask bm v p w):∃k f,v= .func (.func k) #[] f/\(∀d w,(callFunc k d).run prog w= .ok (.enter k d) w)/\∀W,vS bm w W->∀s,Calls prog k (#[gI s]++f) W λe g=>e=ir (.bool (p s))/\g=W:=by
 have⟨E,hA,hC⟩:=h;have⟨k,f,hv,he,ha⟩:=hA.ex;exact⟨k,f,hv,he,λW m s=>ha W (λe l=>m.calm (hC e l)) s⟩
def NA (bm g cap:Nat) (d:List gz) (w:gw) (o:w.heap[g]?=some (gJ (d.map Value.string).toArray 9)) (f:d.length<=4096):
  Calls prog 206 #[rh g d.length cap] w λe w'=>(∃v,e=ir v/\Ask bm v (ik d) w')/\Kept [] w w':=by
 refine(acp g cap d.length w).mono ?_;rintro e w' ⟨rfl,rfl⟩;have n:Kept [] w (w.alloc (gJ #[rh g d.length cap] 210)):=(Kept.refl _ _).alloc _;have h:=fZ w (gJ #[rh g d.length cap] 210);have l:=n.at o (by simp);refine⟨⟨_,rfl,_,YA _ g cap d _ h l f,λe m=>?_⟩,n⟩;simp at m;rcases m with rfl|rfl
 .exact .inr ⟨_,_,h,by decide⟩
 .exact .inr ⟨_,_,l,by decide⟩
def aag (bm c:Nat) (L:List (gz×Nat)) (w:gw) (q:sK w bm (Be L)) (o:c < 16) (n:∀s,wS L s < 16):
  Calls prog 49 #[.agg #[.map (some bm)],gp c] w λe w'=>(∃v,e=ir v/\Ask bm v (isC L c) w')/\Kept [] w w':=by
 have h:Calls prog 49 #[.agg #[.map (some bm)],gp c] w λe w'=>e=ir (.func (.func 78) #[] #[gL w.heap.size,gL (w.heap.size+1)])/\w'=(w.alloc (gJ #[.map (some bm)] 137)).alloc (gJ #[gp c] 159):=by
  go_enter func49,ntmps49;go_wp2;go_ret;exact⟨by simp,rfl⟩
 refine h.mono ?_;rintro e w' ⟨rfl,rfl⟩;have r:Kept [] w (w.alloc (gJ #[.map (some bm)] 137)):=(Kept.refl _ _).alloc _;have l:=r.alloc (gJ #[gp c] 159);have d:=fZ (w.alloc (gJ #[.map (some bm)] 137)) (gJ #[gp c] 159);rw[ry]at d;have f:=(Below.heap_alloc (w.alloc (gJ #[.map (some bm)] 137)) (gJ #[gp c] 159) w.heap.size (by simp)).trans (fZ w _);have m:=q.kept l (by simp);refine⟨⟨_,rfl,_,aaf _ _ bm c L _ f d m o n,λe g=>?_⟩,l⟩;simp at g;rcases g with rfl|rfl|rfl
 .exact .inr ⟨_,_,f,by decide⟩
 .exact .inr ⟨_,_,d,by decide⟩
 .have⟨es,ck,ha,_⟩:=m;exact .inl ⟨rfl,es,ck,ha⟩
def Mc {d f : List Nat} {g h : Nat} (l:xL bm w g) (m:xL bm w h) (c1:∀e∈d,xL bm w e) (c2:∀e∈f,xL bm w e):∀e∈g::h::(d++f),xL bm w e:=by
 grind
def adJ (bm:Nat) (v1 v2:gP) (p q:gz->Bool) (w:gw) (m:Ask bm v1 p w) (n:Ask bm v2 q w):
  Calls prog 226 #[v1,v2] w λe w'=>(∃v,e=ir v/\Ask bm v (λs=>p s||q s) w')/\Kept [] w w':=by
 have⟨E1,a1,c1⟩:=m;have⟨E2,a2,c2⟩:=n;refine(abg E1 E2 v1 v2 p q w a1 a2).mono ?_;rintro e w' ⟨⟨v,rfl,l,g,h⟩,f⟩;exact⟨⟨v,rfl,_,l,Mc (.inr ⟨_,_,g,by decide⟩) (.inr ⟨_,_,h,by decide⟩) (λe d=>(c1 e d).fr (.gZ f)) (λe d=>(c2 e d).fr (.gZ f))⟩,f⟩
def aa7 (bm:Nat) (v1:gP) (p:gz->Bool) (w:gw) (l:Ask bm v1 p w):
  Calls prog 225 #[v1] w λe w'=>(∃v,e=ir v/\Ask bm v (λs=>!p s) w')/\Kept [] w w':=by
 have⟨E1,a1,c1⟩:=l;refine(YX E1 v1 p w a1).mono ?_;rintro e w' ⟨⟨v,rfl,h,g⟩,f⟩;refine⟨⟨v,rfl,_,h,λe d=>?_⟩,f⟩;simp at d;rcases d with rfl|d
 .exact .inr ⟨_,_,g,by decide⟩
 .exact(c1 e d).fr (.gZ f)
inductive Ru
 |nil
 |nothing
 |ig (f:Nat)
 |pq (m:Int)
 |gS (pf:Nat) (own:Bool)
 |ahead (f:Nat)
 |ends (f:Nat)
 |Nu (r:Ru)
 |rE (ks:List gz) (m:Int)
 |nK (ks:List gz) (name:gz) (m:Int)
 |item (ks:List gz)
abbrev iC (b:Nat):gP:=gL b
abbrev box (w:gw) (b:Nat) (v:gP) (t:TypeId):Prop:=w.heap[b]?=some (gJ #[v] t)
def ny (bm bB bD:Nat):Ru->gP->gw->Prop
 | .nil,v,_=>v= .nilFunc
 | .nothing,v,_=>v= .func (.func 79) #[] #[]
 | .ig f,v,_=>v= .func (.func f) #[iC bB] #[]
 | .pq m,v,w=>∃d g,v= .func (.func 161) #[] #[iC d,iC g]/\box w d (iC bB) 93/\box w g (gp m) 154
 | .gS pf own,v,w=>∃d,v= .func (.func 155) #[] #[iC d]/\box w d (.func (.func pf) #[iC (if own then bB else bD)] #[]) 190
 | .ahead f,v,w=>∃d g,v= .func (.func 208) #[] #[iC g,iC d]/\box w d (iC bB) 93/\box w g (.func (.func f) #[iC bB] #[]) 70
 | .ends f,v,w=>∃d,v= .func (.func 213) #[] #[iC d]/\box w d (.func (.func f) #[iC bB] #[]) 70
 | .Nu r,v,w=>∃d g u,v= .func (.func 218) #[] #[iC d,iC g]/\box w d (iC bB) 93/\box w g u 143/\ny bm bB bD r u w
 | .rE ks m,v,w=>∃d g h u,v= .func (.func 205) #[] #[iC d,iC g,iC h]/\box w d (iC bB) 93/\box w g u 150/\Ask bm u (ik ks) w/\box w h (gp m) 154
 | .nK ks name m,v,w=>∃d g h l u,v= .func (.func 207) #[] #[iC d,iC g,iC h,iC l]/\box w d (iC bB) 93/\box w g u 150/\Ask bm u (ik ks) w/\box w h (gI name) 9/\box w l (gp m) 154
 | .item ks,v,w=>∃d g h n o,v= .func (.func 263) #[] #[iC d,iC g,iC h]/\box w d (iC bB) 93/\box w g n 150/\Ask bm n (ik ks) w/\box w h o 150/\Ask bm o (λs=>lc s&&!ik [jR,mZ] s) w
def box.fr (h:box w b v t) (d:vS bm w w') (f:t∉Hg):box w' b v t:=d.cell h f
def ny.fr:∀{r:Ru} {v:gP} {w w':gw},ny bm bB bD r v w->vS bm w w'->ny bm bB bD r v w'
 | .nil,_,_,_,h,_=>h
 | .nothing,_,_,_,h,_=>h
 | .ig _,_,_,_,h,_=>h
 | .pq _,_,_,_,⟨b1,b2,e,h1,h2⟩,hf=>⟨b1,b2,e,box.fr h1 hf (by decide),box.fr h2 hf (by decide)⟩
 | .gS _ _,_,_,_,⟨b1,e,h1⟩,hf=>⟨b1,e,box.fr h1 hf (by decide)⟩
 | .ahead _,_,_,_,⟨b1,b2,e,h1,h2⟩,hf=>⟨b1,b2,e,box.fr h1 hf (by decide),box.fr h2 hf (by decide)⟩
 | .ends _,_,_,_,⟨b1,e,h1⟩,hf=>⟨b1,e,box.fr h1 hf (by decide)⟩
 | .Nu _,_,_,_,⟨b1,b2,u,e,h1,h2,hr⟩,hf=>⟨b1,b2,u,e,box.fr h1 hf (by decide),box.fr h2 hf (by decide),hr.fr hf⟩
 | .rE _ _,_,_,_,⟨b1,b2,b3,u,e,h1,h2,ha,h3⟩,hf=>⟨b1,b2,b3,u,e,box.fr h1 hf (by decide),box.fr h2 hf (by decide),ha.fr hf,box.fr h3 hf (by decide)⟩
 | .nK _ _ _,_,_,_,⟨b1,b2,b3,b4,u,e,h1,h2,ha,h3,h4⟩,hf=>⟨b1,b2,b3,b4,u,e,box.fr h1 hf (by decide),box.fr h2 hf (by decide),ha.fr hf,box.fr h3 hf (by decide),box.fr h4 hf (by decide)⟩
 | .item _,_,_,_,⟨b1,b2,b3,u1,u2,e,h1,h2,ha,h3,hb⟩,hf=>⟨b1,b2,b3,u1,u2,e,box.fr h1 hf (by decide),box.fr h2 hf (by decide),ha.fr hf,box.fr h3 hf (by decide),hb.fr hf⟩
def pg:List (List gz×Ru)->gz->Option Ru
 |[],_=>none
 |p::R,k=>if ik p.1 k then some p.2 else pg R k
def IsMap (bm bB bD b:Nat) (R:List (List gz×Ru)) (v:gP) (w:gw):Prop:=
 ∃L,v= .map (some b)/\sK w b L/\∀k,match pg R k with
  |some r=>∃u,zL L k=some u/\ny bm bB bD r u w
  |none=>zL L k=none
def IsMap.fr {R : List (List gz×Ru)} (h:IsMap bm bB bD b R v w) (f:vS bm w w') (d:w'.heap[b]?=w.heap[b]?):IsMap bm bB bD b R v w':=by
 have⟨L,e,hm,hr⟩:=h;refine⟨L,e,hm.keeps d,λk=>?_⟩;have:=hr k;cases hq:pg R k with
 |none=>grind
 |some r=>rw[hq]at this;have⟨u,hu,hi⟩:=this;exact⟨u,hu,hi.fr f⟩
def LV:∀(L:List (gz×gP)) (k:gz) (v:gP) (s:gz),zL (Ck L k v) s=if kA s k then some v else zL L s
 |[],k,v,s=>rfl
 |p::L,k,v,s=>by
  unfold Ck
  by_cases d:kA k p.1=true
  .grind[zL,kA,Ck]
  .rw[gR d];unfold zL;rw[LV L k v s]
   grind[kA]
def Pz (v:gP) (s:gz) (ks:List gz):∀(L:List (gz×gP)),zL (y8 L ks v) s=if ik ks s then some v else zL L s:=by
 induction ks with
 |nil=>grind[zL,y8,ik]
 |cons k ks ih=>
  intro L;show zL (y8 (Ck L k v) ks v) s=_;rw[ih,LV]
  grind[ik]
def IsMap.at {R : List (List gz×Ru)} (h:IsMap bm bB bD b R v w):∃f d,w.heap[b]?=some (.map f d):=by
 have⟨L,e,⟨f,d,ha,_⟩,hr⟩:=h
 grind
def SP (bm bB bD b:Nat) (s:gz) (ks:List gz) (r:Ru) (R:List (List gz×Ru)) (v:gP) (w:gw) (o:pT s=true) (h:words s=ks) (q:xN w) (n:IsMap bm bB bD b R (.map (some b)) w) (l:b≠bm) (y:ny bm bB bD r v w):
  Calls prog 84 #[.map (some b),gI s,v] w λe w'=>e=ir (.map (some b))/\IsMap bm bB bD b ((ks,r)::R) (.map (some b)) w'/\Kept [b] w w'/\vS bm w w':=by
 have f:=n.at;have⟨L,_,hM,hR⟩:=n;refine(aeN b s v L w o q.1 hM).mono ?_;rintro e w' ⟨rfl,d,m⟩;have g:=vS.of_map m f l;rw[h]at d;refine⟨rfl,⟨_,rfl,d,λk=>?_⟩,m,g⟩;rw[Pz];unfold pg;cases hq:ik ks k with
 |true=>simp;exact y.fr g
 |false=>
  simp;have:=hR k;cases hq2:pg R k with
  |none=>grind
  |some r2=>rw[hq2]at this;have⟨u,hu,hi⟩:=this;exact⟨u,hu,hi.fr g⟩
def Uk (bm bB bD:Nat) (w:gw):IsMap bm bB bD w.heap.size [] (.map (some w.heap.size)) (w.alloc (.map #[] 0)):=⟨[],rfl,sK.new w,λ_=>rfl⟩
def sv (w:gw) (d f:Obj):((w.alloc d).alloc f).heap[w.heap.size]?=some d/\((w.alloc d).alloc f).heap[w.heap.size+1]?=some f:=by
 refine⟨(Below.heap_alloc _ _ _ (by simp)).trans (fZ w _),?_⟩;have:=fZ (w.alloc d) f
 simp_all
def ot (w:gw) (d f g:Obj):(((w.alloc d).alloc f).alloc g).heap[w.heap.size]?=some d/\(((w.alloc d).alloc f).alloc g).heap[w.heap.size+1]?=some f/\(((w.alloc d).alloc f).alloc g).heap[w.heap.size+1+1]?=some g:=by
 have⟨h1,h2⟩:=sv w d f;refine⟨(Below.heap_alloc _ _ _ (by grind)).trans h1,(Below.heap_alloc _ _ _ (by simp)).trans h2,?_⟩;have:=fZ ((w.alloc d).alloc f) g
 simp_all
def FZ (w:gw) (d f g h:Obj):((((w.alloc d).alloc f).alloc g).alloc h).heap[w.heap.size]?=some d/\((((w.alloc d).alloc f).alloc g).alloc h).heap[w.heap.size+1]?=some f/\((((w.alloc d).alloc f).alloc g).alloc h).heap[w.heap.size+1+1]?=some g/\((((w.alloc d).alloc f).alloc g).alloc h).heap[w.heap.size+1+1+1]?=some h:=by
 have⟨h1,h2,h3⟩:=ot w d f g;refine⟨(Below.heap_alloc _ _ _ (by grind)).trans h1,(Below.heap_alloc _ _ _ (by simp)).trans h2,(Below.heap_alloc _ _ _ (by simp)).trans h3,?_⟩;have:=fZ (((w.alloc d).alloc f).alloc g) h
 simp_all
abbrev zr (bm bB bD:Nat) (r:Ru) (w:gw) (e:Ending) (w':gw):Prop:=(∃v,e=ir v/\ny bm bB bD r v w')/\Kept [] w w'
def py (bm bB bD:Nat) (m:Int) (w:gw):Calls prog 88 #[iC bB,gp m] w (zr bm bB bD (.pq m) w):=by
 refine(aa3 bB m w).mono ?_;rintro e w' ⟨rfl,rfl⟩;have⟨h1,h2⟩:=sv w (gJ #[iC bB] 93) (gJ #[gp m] 154);exact⟨⟨_,rfl,_,_,rfl,h1,h2⟩,((Kept.refl _ _).alloc _).alloc _⟩
def ou (bm bB bD d:Nat) (own:Bool) (w:gw):Calls prog 80 #[iC bB,.func (.func d) #[iC (if own then bB else bD)] #[]] w (zr bm bB bD (.gS d own) w):=by
 refine(NF bB (.func d) #[iC (if own then bB else bD)] #[] w).mono ?_;rintro e w' ⟨rfl,rfl⟩;exact⟨⟨_,rfl,_,rfl,fZ w _⟩,(Kept.refl _ _).alloc _⟩
def oj (bm bB bD f:Nat) (w:gw):Calls prog 112 #[iC bB,.func (.func f) #[iC bB] #[]] w (zr bm bB bD (.ahead f) w):=by
 refine(NH bB (.func f) #[iC bB] #[] w).mono ?_;rintro e w' ⟨rfl,rfl⟩;have⟨h1,h2⟩:=sv w (gJ #[iC bB] 93) (gJ #[.func (.func f) #[iC bB] #[]] 70);exact⟨⟨_,rfl,_,_,rfl,h1,h2⟩,((Kept.refl _ _).alloc _).alloc _⟩
def xj (bm bB bD f:Nat) (w:gw):Calls prog 116 #[.func (.func f) #[iC bB] #[]] w (zr bm bB bD (.ends f) w):=by
 refine(aa4 (.func f) #[iC bB] #[] w).mono ?_;rintro e w' ⟨rfl,rfl⟩;exact⟨⟨_,rfl,_,rfl,fZ w _⟩,(Kept.refl _ _).alloc _⟩
def ny.func {r : Ru} (h:ny bm bB bD r v w) (d:r≠ .nil):∃f a l,v= .func f a l:=by
 cases r with
 |nil=>grind
 |nothing=>exact⟨_,_,_,h⟩
 |ig f=>exact⟨_,_,_,h⟩
 |pq m=>have⟨_,_,e,_⟩:=h;grind
 |gS a b=>have⟨_,e,_⟩:=h;grind
 |ahead f=>have⟨_,_,e,_⟩:=h;grind
 |ends f=>have⟨_,e,_⟩:=h;grind
 |Nu r=>have⟨_,_,_,e,_⟩:=h;grind
 |rE a b=>have⟨_,_,_,_,e,_⟩:=h;grind
 |nK a b c=>have⟨_,_,_,_,_,e,_⟩:=h;grind
 |item a=>have⟨_,_,_,_,_,e,_⟩:=h;grind
def JF (bm bB bD:Nat) (r:Ru) (u:gP) (w:gw) (h:r≠ .nil) (g:ny bm bB bD r u w):Calls prog 124 #[iC bB,u] w (zr bm bB bD (.Nu r) w):=by
 obtain⟨f,a,l,rfl⟩:=g.func h;refine(NI bB f a l w).mono ?_;rintro e w' ⟨rfl,rfl⟩;have⟨h1,h2⟩:=sv w (gJ #[iC bB] 93) (gJ #[.func f a l] 143);have d:Kept [] w ((w.alloc (gJ #[iC bB] 93)).alloc (gJ #[.func f a l] 143)):=((Kept.refl _ _).alloc _).alloc _;exact⟨⟨_,rfl,_,_,_,rfl,h1,h2,g.fr (.gZ d)⟩,d⟩
def Ask.func (h:Ask bm v p w):∃f a l,v= .func f a l:=by
 have⟨k,lb,e,_⟩:=h.call
 grind
def A6 (bm bB bD:Nat) (ks:List gz) (m:Int) (u:gP) (w:gw) (g:Ask bm u (ik ks) w):Calls prog 109 #[iC bB,u,gp m] w (zr bm bB bD (.rE ks m) w):=by
 obtain⟨f,a,l,rfl⟩:=g.func;refine(PZ bB f a l m w).mono ?_;rintro e w' ⟨rfl,rfl⟩;have⟨h1,h2,h3⟩:=ot w (gJ #[iC bB] 93) (gJ #[.func f a l] 150) (gJ #[gp m] 154);have d:Kept [] w (((w.alloc (gJ #[iC bB] 93)).alloc (gJ #[.func f a l] 150)).alloc (gJ #[gp m] 154)):=(((Kept.refl _ _).alloc _).alloc _).alloc _;exact⟨⟨_,rfl,_,_,_,_,rfl,h1,h2,g.fr (.gZ d),h3⟩,d⟩
def Ct (bm bB bD:Nat) (ks:List gz) (name:gz) (m:Int) (u:gP) (w:gw) (g:Ask bm u (ik ks) w):Calls prog 111 #[iC bB,u,gI name,gp m] w (zr bm bB bD (.nK ks name m) w):=by
 obtain⟨f,a,l,rfl⟩:=g.func;refine(NJ bB f a l name m w).mono ?_;rintro e w' ⟨rfl,rfl⟩;have⟨h1,h2,h3,h4⟩:=FZ w (gJ #[iC bB] 93) (gJ #[.func f a l] 150) (gJ #[gI name] 9) (gJ #[gp m] 154);have d:Kept [] w ((((w.alloc (gJ #[iC bB] 93)).alloc (gJ #[.func f a l] 150)).alloc (gJ #[gI name] 9)).alloc (gJ #[gp m] 154)):=((((Kept.refl _ _).alloc _).alloc _).alloc _).alloc _;exact⟨⟨_,rfl,_,_,_,_,_,rfl,h1,h2,g.fr (.gZ d),h3,h4⟩,d⟩
end
end Go.Proofs.YtofkkmcdggkkpaaGreatDoor
