import Derived.WalkKit
import Derived.WalkSpells
import Derived.WalkLawsBesides
import Derived.Deep.Draws
import Derived.ArgAppend
import Derived.Laws.OwnMore
import Derived.LaidEqlPtr
import Derived.Deep.RegionLaw
import Derived.Lib.SliceRun
import Derived.Laws.IdiomCopy
import Derived.Shelf.RegionOpenPlain
import Derived.Lib.Overlaps
import Derived.Lib.AppendZerosOnto
import Derived.Laws.NewBlocks
import Derived.Laws.Externs
import Derived.Shelf.Spec.SlicesInsert
import Derived.RangeFuncNested
import Derived.RangeFuncBound
import Derived.RangeFuncCalls
import Derived.RangeFuncLeaves
import Derived.Shelf.Abstract
import Derived.Shelf.RegionOpen
import Derived.OwnWalkIn
import Derived.TacticsInMore
import Derived.LoopNIn
import Derived.LoopIn
import Derived.Maps.RangeRun
import Derived.Deep.RegionHeld3
import Derived.Deep.CutRange
import Derived.LaidEql
import Derived.Laws.IdiomStrings
import Derived.Laws.Concat
import Derived.Test.YtofkkmcdggkkpaaGreatDoorShelf
import Derived.Lib.ItoaMem
set_option linter.unusedSimpArgs false
set_option linter.unusedVariables false
set_option linter.defProp false
set_option maxHeartbeats 0
set_option maxRecDepth 100000
namespace Go.Proofs.YtofkkmcdggkkpaaGreatDoor
open Go.RowKit Tryz
def ig:=@Nat.le_refl
def jP:=@Nat.le_trans
def lV:=@Nat.lt_of_lt_of_le
def Z1:=@World.cell?_of_block
def jk:=@lt_of_block
def Xn:=@List.eq_nil_of_length_eq_zero
def oX:=@World.ownsRow_nil
def RN:=@Sem.run_bind
def yC:=@List.map_cons
def gQ:=@if_neg
def gF:=@if_pos
def BN:=@List.getElem?_take
def pO:=@run_underlying
def vp:=@decide_eq_true
def xo:=@decide_eq_false
def uR:=@List.getElem_mem
def vq:=@wp_loop_rounds
def oU:=@rounds_succ
def qe:=@List.length_cons
def Z0:=@List.take_succ_eq_append_getElem
def wL:=@Array.getElem?_eq_getElem
def jL:=@Option.some.inj
def tz:=@info_parts
def U1:=@List.getElem?_drop
def Em:=@Nat.mul_one
def Ko:=@List.mem_of_mem_drop
def xq:=@List.append_assoc
def Kq:=@List.take_append_of_le_length
def MG:=@List.take_take
def RE:=@Nat.min_eq_left
def AN:=@List.take_of_length_le
def Gw:=@List.drop_of_length_le
def U2:=@List.append_nil
def ru:=@List.nil_append
def U3:=@run_copy_cells
def xu:=@Ne.symm
def yB:=@ownsRow_setCell_other
def oW:=@List.mem_cons_of_mem
def Z2:=@List.dropLast_eq_take
def ry:=@List.getElem?_eq_getElem
def rA:=@List.map_append
def tA:=@List.mem_of_getElem?
def U4:=@List.reverse_append
def Z3:=@List.eq_nil_or_concat
def RH:=@List.dropLast_concat
def qf:=@bodyPost_ret
def Kr:=@results_none
def pk:=@World.putObj_heap_other
def wM:=@List.size_toArray
def uS:=@List.length_nil
def wN:=@Array.replicate_succ
def wO:=@Array.replicate_zero
def wP:=@List.push_toArray
def wQ:=@List.append_toArray
def uT:=@List.cons_append
def RK:=@List.getElem?_reverse
def Ks:=@List.take_add_one
def sJ:=@ByteArray.toList_eq
def Z4:=@List.findIdx_lt_length_of_exists
def sK:=@congrArg
def rB:=@World.size_alloc
def RL:=@List.cons.injEq
def RM:=@Array.size_setIfInBounds
def Eo:=@Array.getElem?_setIfInBounds_ne
def Kt:=@MapKept.run_getObj_map
def U5:=@List.getElem?_map
def U6:=@Array.getElem?_toList
def U7:=@List.filter_eq_nil_iff
def rS:=@Bool.and_eq_true
def MH:=@List.mem_filter
def RO:=@Array.getD_eq_getD_getElem?
def BO:=@Array.getElem?_eq_none
def pP:=@List.mem_cons_self
def xv:=@List.getD_eq_getElem?_getD
def U8:=@List.getElem?_append_left
def RP:=@List.all_eq_true
def Ku:=@List.mem_range
def wR:=@Bool.false_eq_true
def tC:=@wp_region_any
def kP:=@wpOp_step
def Z5:=@List.length_eraseIdx_of_lt
def MI:=@decide_eq_true_eq
def iO:=@Nat.zero_le
def rC:=@Nat.lt_or_ge
abbrev gy:=ByteArray
abbrev gv:=World
abbrev gO:=Value
abbrev lh:=List (ByteArray×ByteArray)
abbrev kQ:=List (Option Nat)
abbrev jg:=Option Nat
abbrev jM:=Array Value
@[simp,go_sem] abbrev kI:ByteArray:=⟨#[]⟩
@[simp,go_sem] abbrev yD:ByteArray:=⟨#[10]⟩
@[simp,go_sem] abbrev lB:ByteArray:=⟨#[100,100]⟩
@[simp,go_sem] abbrev jS:ByteArray:=⟨#[100,105,118]⟩
@[simp,go_sem] abbrev qI:ByteArray:=⟨#[100,108]⟩
@[simp,go_sem] abbrev lC:ByteArray:=⟨#[100,116]⟩
@[simp,go_sem] abbrev iL:ByteArray:=⟨#[102,111,114,109]⟩
@[simp,go_sem] abbrev gS:ByteArray:=⟨#[104,101,97,100]⟩
@[simp,go_sem] abbrev lD:ByteArray:=⟨#[104,105,100,100,101,110]⟩
@[simp,go_sem] abbrev uj:ByteArray:=⟨#[104,114]⟩
@[simp,go_sem] abbrev fX:ByteArray:=⟨#[104,116,109,108]⟩
@[simp,go_sem] abbrev mf:ByteArray:=⟨#[104,49]⟩
@[simp,go_sem] abbrev mg:ByteArray:=⟨#[104,50]⟩
@[simp,go_sem] abbrev AP:ByteArray:=⟨#[105]⟩
@[simp,go_sem] abbrev tm:ByteArray:=⟨#[105,109,103]⟩
@[simp,go_sem] abbrev jE:ByteArray:=⟨#[105,110,112,117,116]⟩
@[simp,go_sem] abbrev kM:ByteArray:=⟨#[108,105]⟩
@[simp,go_sem] abbrev jh:ByteArray:=⟨#[109,101,116,97]⟩
@[simp,go_sem] abbrev nN:ByteArray:=⟨#[110,111,116,105,110,59]⟩
@[simp,go_sem] abbrev mZ:ByteArray:=⟨#[110,111,116,105,110,69,59]⟩
@[simp,go_sem] abbrev nO:ByteArray:=⟨#[110,111,116,110,105,59]⟩
@[simp,go_sem] abbrev iG:ByteArray:=⟨#[110,111,98,114]⟩
@[simp,go_sem] abbrev gm:ByteArray:=⟨#[111,112,116,103,114,111,117,112]⟩
@[simp,go_sem] abbrev gN:ByteArray:=⟨#[111,112,116,105,111,110]⟩
@[simp,go_sem] abbrev gV:ByteArray:=⟨#[111,98,106,101,99,116]⟩
@[simp,go_sem] abbrev nc:ByteArray:=⟨#[112]⟩
@[simp,go_sem] abbrev mL:ByteArray:=⟨#[112,114,101]⟩
@[simp,go_sem] abbrev iX:ByteArray:=⟨#[115,101,108,101,99,116]⟩
@[simp,go_sem] abbrev iQ:ByteArray:=⟨#[115,116,121,108,101]⟩
@[simp,go_sem] abbrev iy:ByteArray:=⟨#[116,100]⟩
@[simp,go_sem] abbrev jF:ByteArray:=⟨#[116,101,120,116,97,114,101,97]⟩
@[simp,go_sem] abbrev gq:ByteArray:=⟨#[116,102,111,111,116]⟩
@[simp,go_sem] abbrev iA:ByteArray:=⟨#[116,104]⟩
@[simp,go_sem] abbrev gr:ByteArray:=⟨#[116,104,101,97,100]⟩
@[simp,go_sem] abbrev pD:ByteArray:=⟨#[116,105,109,101,115]⟩
@[simp,go_sem] abbrev nf:ByteArray:=⟨#[116,105,109,101,115,98,59]⟩
@[simp,go_sem] abbrev jq:ByteArray:=⟨#[116,105,116,108,101]⟩
@[simp,go_sem] abbrev ic:ByteArray:=⟨#[116,114]⟩
@[simp,go_sem] abbrev nI:ByteArray:=⟨#[116,121,112,101]⟩
@[simp,go_sem] abbrev fZ:ByteArray:=⟨#[116,97,98,108,101]⟩
@[simp,go_sem] abbrev gp:ByteArray:=⟨#[116,98,111,100,121]⟩
@[simp,go_sem] abbrev oy:ByteArray:=⟨#[117,108]⟩
@[simp,go_sem] abbrev pE:ByteArray:=⟨#[226,139,185,204,184]⟩
@[simp,go_sem] abbrev mx:ByteArray:=⟨#[32,9,10,12]⟩
@[simp,go_sem] abbrev jn:ByteArray:=⟨#[32,9,10,12,47,62]⟩
@[simp,go_sem] abbrev pF:ByteArray:=⟨#[32,9,10,12,47,62,61]⟩
@[simp,go_sem] abbrev mh:ByteArray:=⟨#[32,9,10,12,62]⟩
@[simp,go_sem] abbrev lE:ByteArray:=⟨#[33,100,111,99,116,121,112,101]⟩
@[simp,go_sem] abbrev tD:ByteArray:=⟨#[34]⟩
@[simp,go_sem] abbrev BQ:ByteArray:=⟨#[38]⟩
@[simp,go_sem] abbrev sL:ByteArray:=⟨#[39]⟩
@[simp,go_sem] abbrev yE:ByteArray:=⟨#[45,62]⟩
@[simp,go_sem] abbrev Ep:ByteArray:=⟨#[60]⟩
@[simp,go_sem] abbrev jI:ByteArray:=⟨#[62]⟩
@[simp,go_sem] abbrev lN:ByteArray:=⟨#[78,101,119,76,105,110,101,59]⟩
@[simp,go_sem] abbrev tq:ByteArray:=⟨#[97]⟩
@[simp,go_sem] abbrev Gz:ByteArray:=⟨#[98]⟩
@[simp,go_sem] abbrev gA:ByteArray:=⟨#[98,111,100,121]⟩
@[simp,go_sem] abbrev j3:ByteArray:=⟨#[98,114]⟩
@[simp,go_sem] abbrev hH:ByteArray:=⟨#[98,117,116,116,111,110]⟩
@[simp,go_sem] abbrev io:ByteArray:=⟨#[99,111,108]⟩
@[simp,go_sem] abbrev gh:ByteArray:=⟨#[99,111,108,103,114,111,117,112]⟩
@[simp,go_sem] abbrev ng:ByteArray:=⟨#[99,111,112,121,115,114,59]⟩
@[simp,go_sem] abbrev gw:ByteArray:=⟨#[99,97,112,116,105,111,110]⟩
abbrev gJ (b:Nat):Value:=.pointer (some ⟨b,0,none⟩)
abbrev jG (b k:Nat):Value:=.pointer (some ⟨b,k,none⟩)
abbrev gn (n:Int):Value:=.int .i64 n
abbrev iq (v:Value):Ending:=.returned v
abbrev p8:Ending:=.returned (.tuple #[])
abbrev oY (b n c:Nat):Value:=.slice (some ⟨b,0,none⟩) n c
abbrev jX:Value:=.slice none 0 0
abbrev gI (c:Array Value) (t:TypeId):Obj:=.cells c t (0,0)
abbrev gH (s:ByteArray):Value:=.string s
section
variable {C c : jM} {E K S : List Nat} {L : List (gy×gO)} {T t tB : TypeId} {W a w w' w1 : gv} {ao : Option Addr} {av kv u v : gO} {b base bm bs cap e i j k : Nat} {name : gy} {p : gy->Bool} {je x : jg} {xs : kQ} {z : Array Bool}
def fU {p : Prop} (h:p):Hid p:=h
structure Kept (S:List Nat) (w w':gv):Prop where
 os:w'.os=w.os
 tape:w'.tape=w.tape
 output:w'.output=w.output
 size:w.heap.size<=w'.heap.size
 block:∀k,k < w.heap.size->k∉S->w'.heap[k]?=w.heap[k]?
def Kept.refl (S:List Nat) (w:gv):Kept S w w:=⟨rfl,rfl,rfl,ig _,λ_ _ _=>rfl⟩
def Kept.trans {b c : gv} (h:Kept S a b) (k:Kept S b c):Kept S a c:=
 ⟨k.os.trans h.os,k.tape.trans h.tape,k.output.trans h.output,jP h.size k.size,λi d f=>(k.block i (lV d h.size) f).trans (h.block i d f)⟩
def Kept.mono {S' : List Nat} (h:Kept S w w') (l:∀k,k∈S->k < w.heap.size->k∈S'):Kept S' w w':=
 ⟨h.os,h.tape,h.output,h.size,λk d g=>h.block k d (λf=>g (l k f d))⟩
def Kept.next {S' : List Nat} {b c : gv} (h:Kept S a b) (k:Kept S' b c) (l:∀x∈S',x∈S\/a.heap.size<=x):Kept S a c:=
 ⟨k.os.trans h.os,k.tape.trans h.tape,k.output.trans h.output,jP h.size k.size,λi d f=>(k.block i (lV d h.size) (λg=>by grind)).trans (h.block i d f)⟩
def Kept.drew (h:Kept S a w):Kept S a w.drew:=⟨h.os,h.tape,h.output,h.size,h.block⟩
def Kept.drewN (h:Kept S a w) (q:Nat):Kept S a (w.drewN q):=⟨h.os,h.tape,h.output,h.size,h.block⟩
def Kept.alloc (h:Kept S a w) (o:Obj):Kept S a (w.alloc o):=
 ⟨h.os,h.tape,h.output,jP h.size (by simp),λk d f=>(Below.heap_alloc w o k (lV d h.size)).trans (h.block k d f)⟩
def Kept.setCell (h:Kept S a w) {p : Addr} (f:p.block∈S\/a.heap.size<=p.block) (u:gO):Kept S a (w.setCell p u):=
 ⟨h.os,h.tape,h.output,by simpa using h.size,λk g l=>by
  have d:k≠p.block:=by
   rintro rfl;rcases f with f|f
   .grind
   .omega
  exact(Below.heap_setCell w p u k d).trans (h.block k g l)⟩
def Kept.grown {d : jg} (h:Kept S a w) (f:w.grownBy w' d) (n:∀k,d=some k->k∈S\/a.heap.size<=k):Kept S a w':=
 ⟨f.os.trans h.os,f.tape.trans h.tape,f.output.trans h.output,jP h.size f.size,λk l o=>by
  have g:some k≠d:=by
   rintro rfl;rcases n k rfl with m|m
   .grind
   .omega
  exact(f.block k (lV l h.size) g).trans (h.block k l o)⟩
def Kept.below (h:Kept S w w') {B : Nat} (d:B<=w.heap.size) (l:∀k∈S,B<=k):Below B w w':=
 ⟨h.os,h.tape,h.output,h.size,λk f=>h.block k (lV f d) (λg=>by grind)⟩
def Kept.cell (h:Kept S w w') {p : Addr} (d:p.block < w.heap.size) (f:p.block∉S):w'.cell? p=w.cell? p:=Z1 (w:=w) (h.block p.block d f)
def Kept.at (h:Kept S w w') {o : Obj} (d:w.heap[k]?=some o) (f:k∉S):w'.heap[k]?=some o:=
 (h.block k (jk d) f).trans d
def xW {a : Nat} {g l : jM} {d f : TypeId} {m n : Nat×Nat} (o:w.heap[a]?=some (.cells g d m)) (q:w.heap[b]?=some (.cells l f n)) (h:d≠f):a≠b:=by
 grind
def fY (w:gv) (o:Obj):(w.alloc o).heap[w.heap.size]?=some o:=by
 show(w.heap.push o)[w.heap.size]?=some o;simp
def Kept.ownsRow (h:Kept S w w') {e : TypeId} {d : Nat} {n : Nat} {xs : List gO} (q:w.ownsRow base e d v n xs) (s:∀k,v.ownBlock=some k->k∉S):w'.ownsRow base e d v n xs:=by
 have⟨h1,l⟩:=q;refine⟨h1,?_⟩;rcases l with l|⟨g,cap,f,rfl,m,o,r⟩
 .grind
 .exact .inr ⟨g,cap,f,rfl,m,(h.at o (s g rfl)),r⟩
section
variable {P:Program} (w:gv)
def jW {w:gv} {base d:Nat} {e:TypeId} {f:Nat} {v:gO} {n:Nat} {xs:List gO} (h:w.ownsRow base e f v n xs) (o:d<=base):w.ownsRow d e f v n xs:=by
 have⟨h1,m⟩:=h;refine⟨h1,?_⟩;rcases m with m|⟨g,cap,l,rfl,q,r⟩
 .grind
 .exact .inr ⟨g,cap,l,rfl,jP o q,r⟩
def Nt {w w':gv} {d:jg} (h:w.grownBy w' none):w.grownBy w' d:=⟨h.os,h.tape,h.output,h.size,λk f _=>h.block k f (by simp)⟩
def zG (base:Nat) (t N e:TypeId) (i:TypeInfo) (z:gO) (d h:Nat) (X:P.underlying t=some (.slice e)) (R:P.info? e=some i) (hz:i.zero=some z)
  (q:i.size=d) (H:i.bytes=h) (J:z.cells.size=d) (I:0 < d)
  (v:gO) (n:Nat) (xs:List gO) (l:w.ownsRow base e d v n xs)
  (a:Addr) (m c:Nat) (f:List gO) (V:f.length=m*d) (o:∀j u,f[j]?=some u->w.cell? (a.add j)=some u) (Z:∀u∈f,u.oneCell'=true)
  (D:n+m<=maxLen) (r:(n+m)*h<=140737488355328) (s:base<=w.heap.size):
  ∃y w',(Builtin.append_ #[t,t] N #[v,.slice (some a) m c]).run P w= .ok y w'/\w'.ownsRow base e d y (n+m) (xs++f)/\w.grownBy w' v.ownBlock/\
   (y.ownBlock=v.ownBlock\/∀k,y.ownBlock=some k->w.heap.size<=k):=by
 rcases l.2 with⟨rfl,rfl⟩|⟨g,cap,a0,rfl,a1,hg,a4,a2,a3,Y⟩
 .have hx:xs=[]:=Xn (by simpa using l.1);subst hx;have⟨y,w',hr,ho,hgr,_⟩:=run_append_own (P:=P) w w.heap.size t N e i z d h X R hz q H J I (jX) 0 [] (oX _ _ _ _) a m c f V o Z D r (ig _);exact⟨y,w',hr,jW ho s,hgr,.inr λk U=>(ho.lt k U).1⟩
 .by_cases A:n+m<=cap
  .have⟨w',hr,ho,hgr⟩:=run_append_fits (P:=P) w base t N e i d X R q g n cap xs l a m c f V o Z A;exact⟨_,w',hr,ho,hgr,.inl rfl⟩
  .have⟨y,w',hr,ho,hgr⟩:=run_append_arg_grows (P:=P) w t N e i z d h X R hz q H J I ⟨g,0,none⟩ n cap xs l.1 (l.cells (g:=g) rfl) a m c f V o (by omega) D r;exact⟨y,w',hr,jW ho s,Nt hgr,.inr λk U=>(ho.lt k U).1⟩
def iw {ops:Array Oper} {q:List Oper} {o:Oper} {a:Act} {Q:Exit->Act->gv->Prop} (R:o.guard=none) (s x:Operand) (t:TypeId)
  (ho:o.op= .call {callee:= .builtin .append,args:=#[s,x],argTypes:=#[t,t]})
  (base:Nat) (e:TypeId) (i:TypeInfo) (z:gO) (d g:Nat) (ht:P.underlying t=some (.slice e)) (Z:P.info? e=some i) (hz:i.zero=some z)
  (A:i.size=d) (N:i.bytes=g) (V:z.cells.size=d) (U:0 < d)
  (v:gO) (n:Nat) (xs:List gO) (hs:a.eval s=v) (H:w.ownsRow base e d v n xs)
  (I:Addr) (m c:Nat) (f:List gO) (hx:a.eval x= .slice (some I) m c) (hl:f.length=m*d) (y:∀j u,f[j]?=some u->w.cell? (I.add j)=some u) (X:∀u∈f,u.oneCell'=true)
  (J:n+m<=maxLen) (l:(n+m)*g<=140737488355328) (r:base<=w.heap.size)
  (h:∀D w',w'.ownsRow base e d D (n+m) (xs++f)->w.grownBy w' v.ownBlock->(D.ownBlock=v.ownBlock\/∀k,D.ownBlock=some k->w.heap.size<=k)->wpList P ops Q q (a.put o.dst D) w'):wpList P ops Q (o::q) a w:=by
 refine wpList_plain R λ_ Y=>?_;have⟨D,w',hr,h2,h3,h4⟩:=zG (P:=P) w base t o.type e i z d g ht Z hz A N V U v n xs H I m c f hl y X J l r;unfold Oper.wp execOp;simp only[ho,resolve,invoke,builtin,RN,Sem.run_pure,Result.andThen_ok,List.map_toArray,yC,List.map_nil,hs,hx,hr];exact Y _ _ (h D w' h2 h3 h4)
end
def jY (s:gy):List gO:=s.data.toList.map λb=>Value.int .u8 b.toNat
def aab (s:gy):(jY s).length=s.size:=by
 simp[jY]
def KE (s t:gy):jY (s++t)=jY s++jY t:=by
 simp[jY]
def R4 (s:gy):∀u∈jY s,u.oneCell'=true:=by
 intro u d;simp[jY]at d;obtain⟨b,_,rfl⟩:=d;rfl
def fW (h:w.heap[b]?=some (gI c t)) (j:Nat):w.cell? ⟨b,j,none⟩=c[j]?:=by simp[World.cell?,h]
def gE (h:w.heap[b]?=some (gI c t)) (j:Nat):w.frozen? ⟨b,j,none⟩=false:=by simp[World.frozen?,h]
def gg (h:w.heap[b]?=some (gI c t)) (j:Nat) (u:gO):(w.setCell ⟨b,j,none⟩ u).heap[b]?=some (gI (c.setIfInBounds j u) t):=by
 have d:=jk h;simp only[World.setCell]
 grind
def gG {e : TypeId} {d : Nat} {n : Nat} {xs : List gO} (h:w.ownsRow base e d v n xs):∃ao cap,v= .slice ao n cap:=by
 rcases h.2 with⟨rfl,l⟩|⟨g,cap,f,rfl,_⟩
 all_goals grind
def iY (g j:Nat):(⟨g,0,none⟩:Addr).add j=⟨g,j,none⟩:=by unfold Addr.add;grind
def ptr (x:jg):Option Addr:=x.map λk=>⟨k,0,none⟩
abbrev kh (x:jg):gO:= .pointer (ptr x)
def iB (xs:kQ) (n:Int):jg:=if 0<=n/\n < xs.length then xs.getD n.toNat none else none
structure wY (base b j:Nat) (tB:TypeId) (C:jM) (v:gO) (xs:kQ) (w:gv):Prop where
 ir:w.heap[b]?=some (gI C tB)
 cell:C[j]?=some v
 row:w.ownsRow base 57 1 v xs.length (xs.map kh)
 ne:tB≠57
 le:xs.length<=4096
def wY.at (h:wY base b j tB C v xs w):w.cell? ⟨b,j,none⟩=some v:=by rw[fW h.ir];exact h.cell
def acL (base b j:Nat) (tB:TypeId) (C:jM) (v:gO) (xs:kQ) (w:gv) (h:wY base b j tB C v xs w):
  Calls prog 251 #[jG b j] w λe w'=>e=iq (gn xs.length)/\w'=w:=by
 have d:=h.at;obtain⟨ao,cap,rfl⟩:=gG h.row;have H:=fU h;clear h;go_enter func251,ntmps251;go_wp2;go_ret;simp
def YY (base b j:Nat) (tB:TypeId) (C:jM) (v:gO) (xs:kQ) (n:Int) (w:gv) (h:wY base b j tB C v xs w):
  Calls prog 229 #[jG b j,gn n] w λe w'=>e=iq (kh (iB xs n))/\w'=w:=by
 have s:=h.at;have q:=h.le
 by_cases D:n < 0
 .obtain⟨ao,cap,rfl⟩:=gG h.row;have l:iB xs n=none:=by unfold iB;rw[gQ (by omega)]
  rw[l];go_enter func229,ntmps229;go_wp2;go_ret;exact⟨rfl,rfl⟩
 by_cases H:(xs.length:Int)<=n
 .obtain⟨ao,cap,rfl⟩:=gG h.row;have l:iB xs n=none:=by unfold iB;rw[gQ (by omega)]
  rw[l];go_enter func229,ntmps229;go_wp2;go_ret;exact⟨rfl,rfl⟩
 obtain⟨k,rfl⟩:∃k:Nat,n=k:=⟨n.toNat,by omega⟩;have o:k < xs.length:=by omega
 have l:iB xs k=xs[k]:=by unfold iB;rw[gF (by omega)];simp[o]
 rw[l];rcases h.row.2 with⟨_,A⟩|⟨g,cap,m,rfl,_,f,r,_,_,d⟩
 .omega
 have y:w.cell? ⟨g,k,none⟩=some (kh xs[k]):=by
  rw[fW f];have:(m.toList.take (xs.length*1))[k]?=some (kh xs[k]):=by rw[d];simp[o]
  rw[BN]at this;split at this
  .grind
  .omega
 go_enter func229,ntmps229;go_wp2;go_ret;simp
def posOf (xs:kQ) (x:jg):Int:=if xs.idxOf x < xs.length then (xs.idxOf x:Int)else -1
def tr (w:gv) (x:jg):Prop:=∀k,x=some k->∃c,w.heap[k]?=some (gI c 142)
def Ua:(prog.info? 142).map (·.size)=some 4:=by kernel_rfl
def Iw:prog.underlying 57=some (.pointer (prog.pointee 57)):=by kernel_rfl
def Cc {y : jg} (l:tr w x) (m:tr w y):
  (binOp .eql 57 (.pointer (ptr x)) (.pointer (ptr y))).run prog w= .ok (.bool (decide (x=y))) w:=by
 obtain⟨j,f,g⟩:=Option.map_eq_some_iff.1 Ua;cases x with
 |none=>
  cases y with
  |none=>exact run_eql_pointer_nil (P:=prog) w 57 none Iw
  |some b=>
   have h:∀d:Nat,(Op.equalIn (d+1) 57 (.pointer none) (gJ b)).run prog w= .ok false w:=λd=>by
    simp[Op.equalIn,pO underlying57]
   show(binOp .eql 57 (.pointer none) (gJ b)).run prog w= .ok (.bool false) w;simp only[binOp];simp[Op.equal,Op.maxDepth,h 9999]
 |some a=>
  cases y with
  |none=>exact run_eql_pointer_nil (P:=prog) w 57 (some ⟨a,0,none⟩) Iw
  |some b=>
   by_cases h:a=b
   .subst h;rw[vp rfl];exact run_eql_ptr_same (P:=prog) w (⟨a,0,none⟩:Addr) underlying57 f
   .have⟨ca,ha⟩:=l a rfl;have⟨cb,hb⟩:=m b rfl;rw[xo (by grind)];exact run_eql_ptr_other (P:=prog) w (a:=⟨a,0,none⟩) (b:=⟨b,0,none⟩) underlying57 f (by omega) (by simp) ha hb
def ac2 (v:gO) (xs:kQ) (w:gv):Prop:=((xs=[]/\∃ao cap,v= .slice ao 0 cap)\/∃g cap,v=oY g xs.length cap/\∀k,(hk:k < xs.length)->w.cell? ⟨g,k,none⟩=some (kh xs[k]))/\∀x∈xs,tr w x
def aaS (o:w.ownsRow base 57 1 v xs.length (xs.map kh)) (l:∀x∈xs,tr w x):ac2 v xs w:=by
 refine⟨?_,l⟩;rcases o.2 with⟨rfl,q⟩|⟨g,cap,h,rfl,_,f,n,_,_,d⟩
 .grind
 .refine .inr ⟨g,cap,rfl,λk m=>?_⟩;rw[fW f];have:(h.toList.take (xs.length*1))[k]?=some (kh xs[k]):=by rw[d];simp[m]
  grind
def Zo (h:k < xs.length) (o:xs[k]=x) (f:∀j,j < k->xs[j]?≠some x):posOf xs x=k:=by
 have q:xs.idxOf x=k:=by
  have n:x∈xs:=o▸uR h;have m:=List.idxOf_lt_length_iff.2 n;have g:¬xs.idxOf x < k:=λd=>f _ d (by grind);have l:¬k < xs.idxOf x:=λd=>by
   have:=List.not_of_lt_findIdx (p:=(·==x)) (xs:=xs) (i:=k) (by simpa [List.idxOf]using d)
   grind
  omega
 grind[posOf]
def Zp (d:∀j,j < xs.length->xs[j]?≠some x):posOf xs x= -1:=by
 grind[posOf]
def EN (v:gO) (xs:kQ) (x:jg) (w:gv) (h:ac2 v xs w) (m:tr w x) (N:xs.length<=4096):
  Calls prog 254 #[v,kh x] w λe w'=>e=iq (gn (posOf xs x))/\w'=w:=by
 rcases h with⟨⟨rfl,ao,cap,rfl⟩|⟨g,cap,rfl,r⟩,A⟩
 .go_enter func254,ntmps254;go_wp2;refine vq 1 ?_;rw[oU];go_wp2;go_ret;simp[posOf]
 .have y:=r;have H:=m;clear r m;have l:∀k,(n:k < xs.length)->(binOp .eql 57 (.pointer (ptr x)) (.pointer (ptr xs[k]))).run prog w= .ok (.bool (decide (x=xs[k]))) w:=λk n=>Cc H (A _ (uR n));have D:=fU l;clear l;go_enter func254,ntmps254;go_wp2
  go_loopw [8] (λi wr=>∃k:Nat,k<=xs.length/\i=gn k/\wr=w/\∀j,j < k->xs[j]?≠some x) (λi _=>xs.length - (intOf i).toNat)
  case atStart=>grind
  case round=>
   obtain⟨k,n,rfl,rfl,q⟩:=hrel
   by_cases d:k < xs.length
   .have R:=y k d;have s:=D k d
    by_cases f:x=xs[k]
    .have o:=fU (Zo d f.symm q);rw[vp f]at s;clear f;go_wp2;go_ret;exact⟨by rw[o.out];rfl,rfl⟩
    .rw[xo f]at s;have I:=f;clear f;go_wp2;go_roundw
     case rel=>
      refine⟨k+1,by omega,by go_num,by simp,λj J=>?_⟩
      grind
     case measure=>simp[intOf];omega
   .have o:=fU (Zp (xs:=xs) (x:=x) (λj J=>q j (by omega)));go_wp2;go_ret;exact⟨by rw[o.out];rfl,rfl⟩
def jp:jM->Nat->List gO->jM
 |c,_,[]=>c
 |c,o,v::r=>jp (c.setIfInBounds o v) (o+1) r
def ju:∀(d:List gO) (c:jM) (o:Nat),(jp c o d).size=c.size
 |[],_,_=>rfl
 |v::r,c,o=>by rw[jp,ju r];simp
def ky:∀(d:List gO) (c:jM) (o:Nat),o+d.length<=c.size->(jp c o d).toList=c.toList.take o++d++c.toList.drop (o+d.length)
 |[],c,o,_=>by simp[jp]
 |v::r,c,o,h=>by
  have f:o+1+r.length<=(c.setIfInBounds o v).size:=by simp at h|-;omega
  rw[jp,ky r _ _ f];simp only[qe]at h;have e1:(c.setIfInBounds o v).toList=c.toList.set o v:=by simp
  rw[e1];have g:o < c.toList.length:=by simp;omega
  rw[Z0 (by grind),List.take_set_of_le (ig _),List.drop_set_of_lt (by omega)]
  grind
def km:∀(d:List gO) (w:gv) (g:Nat) (c:jM) (t:TypeId) (m:Nat×Nat) (o:Nat),w.heap[g]?=some (.cells c t m)->(w.setCells g o d).heap[g]?=some (.cells (jp c o d) t m)
 |[],_,_,_,_,_,_,h=>h
 |v::r,w,g,c,t,m,o,h=>by
  rw[World.setCells,jp];refine km r _ g _ t m (o+1) ?_;have f:=jk h;rw[wL f]at h;have l:=jL h;simp only[World.setCell]
  grind
def Kept.setCells (d:b∈S\/a.heap.size<=b):∀(f:List gO) (o:Nat) {w:gv},Kept S a w->Kept S a (w.setCells b o f)
 |[],_,_,h=>h
 |v::r,o,w,h=>by rw[World.setCells];exact Kept.setCells d r (o+1) (h.setCell (p:=⟨b,o,none⟩) d v)
def aa4:(prog.info? 57).map (λi=>(i.zero,i.size,i.bytes))=some (some (.pointer none),1,8):=by kernel_rfl
def Yd {l : List gO} {n : Nat} (d:i < j) (f:j<=n) (g:n<=l.length):
  ((l.take i++(l.take n).drop j++l.drop (i+(n - j))).take (n - (j - i)))=(l.take n).take i++(l.take n).drop j:=by
 have e:(l.take i++(l.take n).drop j).length=n - (j - i):=by simp;omega
 grind
def adp (g cap i j n:Nat) (f:jM) (w:gv) (o:w.heap[g]?=some (gI f 57)) (a4:n<=cap) (X:f.size=cap) (hi:i < j) (hj:j<=n) (a3:n<=4096)
  (h1:∀u∈f.toList.take n,u.oneCell'=true):
  Calls prog 255 #[oY g n cap,gn i,gn j] w λe w'=>e=iq (oY g (n - (j - i)) cap)/\
   ∃q,w'.heap[g]?=some (gI q 57)/\q.size=cap/\q.toList.take (n - (j - i))=(f.toList.take n).take i++(f.toList.take n).drop j/\Kept [g] w w':=by
 obtain⟨i0,R,a5,Z,a6⟩:=tz aa4;obtain⟨d,m⟩:∃d,d=(f.toList.take n).drop j:=⟨_,rfl⟩;have r:d.length=n - j:=by rw[m];simp;omega
 have I:∀t u,d[t]?=some u->f[j+t]?=some u:=by
  intro t u D;rw[m,U1,BN]at D;split at D
  .grind
  .cases D
 obtain⟨A,hA,J⟩:∃A:Addr,(if cap=j then some (⟨g,0,none⟩:Addr)else some ⟨g,j,none⟩)=some A/\Hid (∀t u,d[t]?=some u->w.drew.cell? (A.add t)=some u):=by
  by_cases h:cap=j
  .refine⟨⟨g,0,none⟩,by simp[h],λt u D=>?_⟩
   grind
  .refine⟨⟨g,j,none⟩,by simp[h],λt u D=>?_⟩;rw[show(⟨g,j,none⟩:Addr).add t=⟨g,j+t,none⟩from by unfold Addr.add;simp];exact(fW o _).trans (I t u D)
 have s1:Hid (d.length=(n - j)*1):=by rw[Em];exact r
 have s2:Hid (∀u∈d,u.oneCell'=true):=λu D=>h1 u (Ko (m▸D));have s3:Hid (∀t,t < d.length->(w.drew.cell? ⟨g,0+i*1+t,none⟩).isSome=true/\w.drew.frozen? ⟨g,0+i*1+t,none⟩=false):=by
  intro t Y;rw[r]at Y;refine⟨?_,gE o _⟩;show(w.cell? _).isSome=true;rw[fW o,wL (by omega)];rfl
 obtain⟨y,s⟩:∃y,y=w.drew.setCells g (0+i*1) d:=⟨_,rfl⟩;have H:y.heap[g]?=some (gI (jp f (0+i*1) d) 57):=by rw[s];exact km d w.drew g f _ _ _ o
 have N:Kept [g] w y:=by rw[s];exact Kept.setCells (.inl (by simp)) d _ (Kept.refl _ _).drew
 have a0:∀ty,(Builtin.clear_ #[151] ty #[.slice (some ⟨g,i+(n - j),none⟩) (n - (i+(n - j))) (cap - (i+(n - j)))]).run prog y= .ok (.tuple #[]) (y.setCells g (i+(n - j)) (List.replicate (n - (i+(n - j))) (.pointer none))):=
  λty=>Lib.run_clear_slice y _ _ ty _ underlying151 Tryz.zeroValue57 rfl rfl g (i+(n - j)) _ _ (by omega) (λt Y=>by rw[fW H,wL (by rw[ju];omega)];rfl) (λt Y=>gE H _)
 have HB:=km (List.replicate (n - (i+(n - j))) (Value.pointer none)) y g _ _ _ (i+(n - j)) H;have HK:=Kept.setCells (S:=[g]) (a:=w) (b:=g) (.inl (by simp)) (List.replicate (n - (i+(n - j))) (Value.pointer none)) (i+(n - j)) N;have U:(jp f (0+i*1) d).toList=f.toList.take (0+i*1)++d++f.toList.drop (0+i*1+d.length):=ky _ _ _ (by omega);have V:=ky (List.replicate (n - (i+(n - j))) (Value.pointer none)) (jp f (0+i*1) d) (i+(n - j)) (by rw[ju];grind);have HF:(jp (jp f (0+i*1) d) (i+(n - j)) (List.replicate (n - (i+(n - j))) (Value.pointer none))).toList.take (n - (j - i))=(f.toList.take n).take i++(f.toList.take n).drop j:=by
  rw[V,xq,Kq (by simp[ju];omega),U,r,m];rw[MG,RE (by omega)];have:=Yd (l:=f.toList) hi hj (by grind)
  simpa using this
 have HW:=fU s;have a1:i<=cap:=by omega
 have a2:j<=cap:=by omega
 clear s;go_enter func255,ntmps255;go_wp2_with fail
 go_region_law (refine step_append_room rfl (.tmp 22) (.tmp 25) 151 rfl 57 i0 1 underlying151 R Z g 0 i cap (by simp[Act.eval,Act.put]) A (n - j) (cap - j) d (by simp[Act.eval,Act.put]) s1 J s2 (by omega) s3 ?_;rw[<-HW.out])
 go_wp2;go_ret;exact⟨by rw[show n - (j - i)=i+(n - j) by omega];rfl,_,HB,by rw[ju,ju];exact X,HF,HK⟩
def adB:(prog.info? 57).map (λi=>(i.zero,i.size,i.bytes))=some (some (.pointer none),1,8):=by kernel_rfl
def IK (T S F O B:Nat) (z:gO):Prop:=(T=57/\S=151/\F=371/\O=373/\B=8/\z= .pointer none)\/(T=183/\S=140/\F=248/\O=300/\B=16/\z= .nilIface)
section
variable {T S F O B:Nat} {z:gO}
def IK.YJ (K:IK T S F O B z):(prog.info? T).map (λi=>(i.zero,i.size,i.bytes))=some (some z,1,B)/\prog.underlying S=some (.slice T)/\(prog.info? T).map (·.size)=some 1/\(∀w,(sizeOf T).run prog w= .ok 1 w)/\∀a w,(callFunc O a).run prog w=((Extern.SlicesOverlaps.overlaps #[S,S] #[4] a).run prog w).andThen λv w'=> .ok (.value v) w':=by
 rcases K with⟨rfl,rfl,rfl,rfl,rfl,rfl⟩|⟨rfl,rfl,rfl,rfl,rfl,rfl⟩
 .exact⟨by kernel_rfl,underlying151,by kernel_rfl,Tryz.sizeOf57,run_callFunc_extern func373 (by kernel_rfl) (by kernel_rfl) (by kernel_rfl) (by kernel_rfl)⟩
 .exact⟨by kernel_rfl,underlying140,by kernel_rfl,Tryz.sizeOf183,run_callFunc_extern func300 (by kernel_rfl) (by kernel_rfl) (by kernel_rfl) (by kernel_rfl)⟩
def Xv (T base:Nat) (v:gO) (n i:Nat) (xs:List gO) (u:gO) (w:gv) (e:Ending) (w':gv):Prop:=
 ∃d,e=iq d/\w'.ownsRow base T 1 d (n+1) (xs.take i++[u]++xs.drop i)/\Kept v.ownBlock.toList w w'/\(d.ownBlock=v.ownBlock\/∀k,d.ownBlock=some k->w.heap.size<=k)
def V8 (K:IK T S F O B z) (base n r:Nat) (v u:gO) (xs:List gO) (w:gv) (g:w.ownsRow base T 1 v n xs) (R:w.heap[r]?=some (gI #[u] T)) (hu:u.oneCell'=true) (Z:n<=1048576) (I:base<=w.heap.size):
  Calls prog F #[v,gn n,oY r 1 1] w (Xv T base v n n xs u w):=by
 obtain⟨U,J,m,o,q⟩:=tz K.YJ.1;have D:=K.YJ.2.1;obtain⟨ao,cap,rfl⟩:=gG g;have N:xs.length=n:=by have:=g.1;omega
 have H:=fU R;clear R;rcases K with⟨rfl,rfl,rfl,rfl,rfl,rfl⟩|⟨rfl,rfl,rfl,rfl,rfl,rfl⟩
 all_goals
  by_cases y:cap=n
  subst y;have s:=fU g;clear g
  first|go_enter func371,ntmps371|go_enter func248,ntmps248
  go_wp2_with (at_builtin;refine iw _ rfl _ _ _ rfl base _ U _ 1 _ D J m o q rfl (by decide) (.slice ao cap cap) cap xs rfl s ⟨r,0,none⟩ 1 1 [u] rfl rfl (λj x l=>by rw[iY,fW H.out,<-l];simp) (λx l=>by grind) (by unfold maxLen;omega) (by omega) I ?_;intro v' w2 f d h);have A:=(Kept.refl (Value.slice ao cap cap).ownBlock.toList w).grown d (λk Y=> .inl (by grind))
  rotate_left
  have s:=fU g;clear g
  first|go_enter func371,ntmps371|go_enter func248,ntmps248
  go_wp2_with (at_builtin;refine iw _ rfl _ _ _ rfl base _ U _ 1 _ D J m o q rfl (by decide) (.slice ao n cap) n xs rfl s ⟨r,0,none⟩ 1 1 [u] rfl rfl (λj x l=>by rw[iY,fW H.out,<-l];simp) (λx l=>by grind) (by unfold maxLen;omega) (by omega) I ?_;intro v' w2 f d h);have A:=(Kept.refl (Value.slice ao n cap).ownBlock.toList w).grown d (λk Y=> .inl (by grind))
  all_goals
   have X:=f;have V:=h;go_wp2;go_ret;refine⟨_,rfl,?_,A,V⟩;rw[AN (by omega),Gw (by omega),U2];exact X
def SJ {l:List gO} {n i:Nat} {u:gO} {c:jM} (d:c.toList.take n=l) (m:n+1<=c.size) (h:i < n):
  (jp (jp c (i+1) (l.drop i)) i [u]).toList.take (n+1)=l.take i++[u]++l.drop i:=by
 have g:l.length=n:=by rw[<-d];simp;omega
 have f:=ky (l.drop i) c (i+1) (by grind);rw[ky [u] _ i (by rw[ju];grind),f];have e1:(c.toList.take (i+1)++l.drop i++c.toList.drop (i+1+(l.drop i).length)).take i=l.take i:=by
  rw[xq,Kq (by grind),MG,RE (by omega),<-d,MG,RE (by omega)]
 have e2:(c.toList.take (i+1)++l.drop i++c.toList.drop (i+1+(l.drop i).length)).drop (i+[u].length)=l.drop i++c.toList.drop (i+1+(l.drop i).length):=by
  rw[xq,List.drop_append_of_le_length (by grind),Gw (by grind),ru]
 rw[e1,e2,<-xq,Kq (by grind),AN (by grind)]
def PQ (K:IK T S F O B z) (base g cap n i o:Nat) (u:gO) (f:jM) (xs:List gO) (w:gv) (Y:base<=g) (d:w.heap[g]?=some (gI f T)) (y:f.toList.take n=xs) (a3:f.size=cap) (hm:cap<=maxLen)
  (a2:n+1<=cap) (hi:i < n) (R:w.heap[o]?=some (gI #[u] T)) (a0:o≠g) (hu:u.oneCell'=true) (h1:∀x∈xs,x.oneCell'=true) (aa:n<=1048576):
  Calls prog F #[oY g n cap,gn i,oY o 1 1] w (Xv T base (oY g n cap) n i xs u w):=by
 have J:xs.length=n:=by rw[<-y];simp;omega
 obtain⟨_,V,U,HZ,HP⟩:=K.YJ;have a1:∀lb X,(callFunc O #[oY o 1 1,.slice (some ⟨g,i+1,none⟩) lb X]).run prog w= .ok (.value (.bool false)) w:=λlb X=>by
  rw[HP,Lib.run_overlaps_apart w S 4 T V 1 HZ ⟨o,0,none⟩ ⟨g,i+1,none⟩ 1 1 lb X a0 T T 1 cap (by simp[World.shape?,R]) (by simp[World.shape?,d,a3]) (by omega) (gE R 0) (gE R 1)];rfl
 have N:∀j,j < cap->(w.cell? ⟨g,j,none⟩).isSome=true:=λj q=>by rw[fW d,wL (by omega)];rfl
 have Z:∀j x,xs[j]?=some x->w.cell? ⟨g,j,none⟩=some x:=λj x q=>by
  rw[fW d]
  grind
 have a9:(xs.drop i).length=n - i:=by rw[List.length_drop,J]
 obtain⟨h,m⟩:∃h,h=w.drew.setCells g (i+1) (xs.drop i):=⟨_,rfl⟩;have H:∀A r sc,(Builtin.copy_ #[S,S] A #[.slice (some ⟨g,i+1,none⟩) (n - i) r,.slice (some ⟨g,i,none⟩) (n+1 - i) sc]).run prog w.drew= .ok (goInt (xs.drop i).length) h:=λA r sc=>by
  rw[m];exact U3 w.drew _ _ A T g (i+1) (n - i) r ⟨g,i,none⟩ (n+1 - i) sc (xs.drop i) V U (by grind)
   (λj x q=>by rw[Addr.add_lit];simp_all)
   (λj q=>N _ (by omega)) (λj q=>gE d _) (λx hx=>h1 x (Ko hx))
 have l:h.heap[g]?=some (gI (jp f (i+1) (xs.drop i)) T):=by rw[m];exact km (xs.drop i) w.drew g f _ _ _ d
 have s:Kept [g] w h:=by rw[m];exact Kept.setCells (.inl (by simp)) _ _ (Kept.refl _ _).drew
 have D:h.heap[o]?=some (gI #[u] T):=s.at R (by grind);have I:∀A r,(Builtin.copy_ #[S,S] A #[.slice (some ⟨g,i,none⟩) (n+1 - i) r,oY o 1 1]).run prog h= .ok (goInt 1) (h.setCells g i [u]):=λA r=>
  U3 h _ _ A T g i (n+1 - i) r ⟨o,0,none⟩ 1 1 [u] V U (by grind)
   (λj x q=>by rw[iY,fW D,<-q];simp)
   (λj q=>by rw[fW l,wL (by rw[ju];grind)];rfl) (λj q=>gE l _) (λx hx=>by grind)
 have HB:=km [u] h g _ _ _ i l;have HK:=Kept.setCells (S:=[g]) (a:=w) (b:=g) (.inl (by simp)) [u] i s;have HF:=SJ (u:=u) y (by omega:n+1<=f.size) hi;clear l s m d R D h1 N Z y;have ac:IntKind.i64.wrap ((i:Int)+1)=(i:Int)+1:=by rw[IntKind.wrap_i64];omega
 have a4:(0:Int)<=(i:Int)+1:=by omega
 have a5:(i:Int)+1<=(n:Int)+1:=by omega
 have ab:((i:Int)+1).toNat=i+1:=by omega
 have a6:(i:Int)<=(n:Int)+1:=by omega
 have a7:¬(cap=i+1):=by omega
 have a8:¬(cap=i):=by omega
 rcases K with⟨rfl,rfl,rfl,rfl,rfl,rfl⟩|⟨rfl,rfl,rfl,rfl,rfl,rfl⟩
 all_goals
  first|go_enter func371,ntmps371|go_enter func248,ntmps248
  go_wp2_with (simp only[a1])
  go_region_law (refine step_copy_runI rfl _ _ _ _ rfl _ _ (by simp[Act.eval,Act.put]) (by simp[Act.eval,Act.put]) (H _ _ _) ?_)
  go_wp2_with (at_builtin;refine wpList_copy_runI _ rfl _ _ _ _ rfl _ _ rfl rfl (I _ _) ?_);go_ret;exact⟨_,rfl,⟨by grind,.inr ⟨g,cap,_,rfl,Y,HB,by omega,hm,by rw[ju,ju];omega,by grind⟩⟩,HK,.inl rfl⟩
def PO {l:List gO} {n i:Nat} {u:gO} {R:jM} (h:l.length=n) (g:R.toList.take i=l.take i) (o:n+1<=R.size) (m:i < n):
  (jp (jp R i [u]) (i+1) (l.drop i)).toList.take (n+1)=l.take i++[u]++l.drop i:=by
 have f:=ky [u] R i (by grind);rw[ky (l.drop i) _ (i+1) (by grind[jp]),f,g];have d:∀X:List gO,(l.take i++[u]++X).take (i+1)=l.take i++[u]:=λX=>by grind
 rw[d,Kq (by grind),AN (by grind)]
def SI (K:IK T S F O B z) (base g cap n i bv:Nat) (u:gO) (D:jM) (xs:List gO) (w:gv) (d:w.heap[g]?=some (gI D T)) (a1:D.toList.take n=xs) (am:D.size=cap)
  (al:n<=cap) (a9:cap < n+1) (hi:i < n) (hv:w.heap[bv]?=some (gI #[u] T)) (hu:u.oneCell'=true) (h1:∀x∈xs,x.oneCell'=true) (ak:n<=1048576) (hb:base<=w.heap.size):
  Calls prog F #[oY g n cap,gn i,oY bv 1 1] w (Xv T base (oY g n cap) n i xs u w):=by
 obtain⟨i0,a8,ab,ac,a3⟩:=tz K.YJ.1;obtain rfl:cap=n:=by omega
 have a0:xs.length=cap:=by rw[<-a1];simp;omega
 obtain⟨_,HU,a2,HZ,HP⟩:=K.YJ;have aj:=jk d;have ap:=jk hv;have Z:∀j x,xs[j]?=some x->w.cell? ⟨g,j,none⟩=some x:=λj x y=>by
  rw[fW d]
  grind
 have A:(Builtin.firstCells i0.size i (oY g i cap)).run prog w.drew= .ok (xs.take i).toArray w.drew:=by
  rw[ac];exact run_firstCells_some w.drew 1 i ⟨g,0,none⟩ i cap (xs.take i) (by grind) (λj x y=>by
   rw[iY];rw[BN]at y
   simp_all)
 obtain⟨G,hG⟩:∃G,G=grownCap w (cap+1) cap T:=⟨_,rfl⟩;obtain⟨R,hR⟩:∃R:jM,R=(xs.take i).toArray++Builtin.zeroCells z.cells (cap+1 - i)++Builtin.zeroCells z.cells (G - (cap+1)):=⟨_,rfl⟩;obtain⟨m,J⟩:∃m,m=w.drew.alloc (gI R T):=⟨_,rfl⟩;have aa:∀f,(Builtin.append_ #[S,3] f #[oY g i cap,gn ((cap:Int)+1 - (i:Int))]).run prog w= .ok (oY w.heap.size (cap+1) G) m:=λf=>by
  have h:=Lib.run_append_grow_zeros w S 3 f T i0 _ .i64 .i64 HU underlying3 a8 ab (some ⟨g,0,none⟩) i cap (xs.take i) A (cap+1 - i) (by omega) (by omega) (by omega) (by omega) (by rw[a3];rcases K with⟨_,_,_,_,rfl,_⟩|⟨_,_,_,_,rfl,_⟩<;>omega) (by rw[a3,show i+(cap+1 - i)=cap+1 by omega];rcases K with⟨_,_,_,_,rfl,_⟩|⟨_,_,_,_,rfl,_⟩<;>exact growslice_fits (by omega) (by omega))
  grind
 have a7:cap+1<=G:=by rw[hG];exact grownCap_ge w _ _ _
 have a4:G<=maxLen:=by rw[hG];exact grownCap_le_maxLen w (cap+1) cap T (by unfold maxLen;omega)
 have a5:R.size=G:=by
  rw[hR];rcases K with⟨_,_,_,_,_,rfl⟩|⟨_,_,_,_,_,rfl⟩<;>simp[Builtin.zeroCells,Value.cells]<;>omega
 have U:R.toList.take i=xs.take i:=by
  rw[hR];simp only[Array.toList_append,xq];rw[Kq (by grind),AN (by grind)]
 have o:m.heap[w.heap.size]?=some (gI R T):=by rw[J];exact fY w.drew _
 have r:Kept [] w m:=by rw[J];exact(Kept.refl [] w).drew.alloc _
 have V:=r.at hv (by simp);have a6:=r.at d (by simp);obtain⟨l,s⟩:∃l,l=m.setCells w.heap.size i [u]:=⟨_,rfl⟩;have X:∀f H,(Builtin.copy_ #[S,S] f #[.slice (some ⟨w.heap.size,i,none⟩) (cap+1 - i) H,oY bv 1 1]).run prog m= .ok (goInt 1) l:=λf H=>by
  rw[s];exact U3 m _ _ f T w.heap.size i (cap+1 - i) H ⟨bv,0,none⟩ 1 1 [u] HU a2 (by grind)
   (λj x y=>by rw[iY,fW V,<-y];simp)
   (λj y=>by rw[fW o,wL (by grind)];rfl) (λj y=>gE o _) (λx hx=>by grind)
 have q:l.heap[w.heap.size]?=some (gI (jp R i [u]) T):=by rw[s];exact km [u] m _ R _ _ _ o
 have I:Kept [] w l:=by rw[s];exact Kept.setCells (.inr (ig _)) _ _ r
 have N:=I.at d (by simp);have Y:∀f H sc,(Builtin.copy_ #[S,S] f #[.slice (some ⟨w.heap.size,i+1,none⟩) (cap - i) H,.slice (some ⟨g,i,none⟩) (cap - i) sc]).run prog l.drew= .ok (goInt (xs.drop i).length) (l.drew.setCells w.heap.size (i+1) (xs.drop i)):=λf H sc=>
  U3 l.drew _ _ f T w.heap.size (i+1) (cap - i) H ⟨g,i,none⟩ (cap - i) sc (xs.drop i) HU a2 (by grind)
   (λj x y=>by
    rw[Addr.add_lit];have h3:=Z (i+j) x (by grind);rw[fW d]at h3;exact(fW N _).trans h3)
   (λj y=>by show(l.cell? _).isSome=true;rw[fW q,wL (by grind[jp])];rfl) (λj y=>gE q _) (λx hx=>h1 x (Ko hx))
 have HB:=km (xs.drop i) l.drew w.heap.size _ _ _ (i+1) q;have HK:=Kept.setCells (S:=[]) (a:=w) (b:=w.heap.size) (.inr (ig _)) (xs.drop i) (i+1) I.drew;have HF:=PO (u:=u) a0 U (by omega) hi;have ar:(cap:Int) < (cap:Int)+1:=by omega
 have ae:¬(G=i):=by omega
 have ad:¬(G=i+1):=by omega
 have ai:¬(cap=i):=by omega
 have aq:IntKind.i64.wrap ((i:Int)+1)=(i:Int)+1:=by rw[IntKind.wrap_i64];omega
 have af:(0:Int)<=(i:Int)+1:=by omega
 have ag:(i:Int)+1<=(cap:Int)+1:=by omega
 have an:((i:Int)+1).toNat=i+1:=by omega
 have ah:(i:Int)<=(cap:Int):=by omega
 clear o r q I J d hv V a6 N h1 Z a1 A hR hG U s;rcases K with⟨rfl,rfl,rfl,rfl,rfl,rfl⟩|⟨rfl,rfl,rfl,rfl,rfl,rfl⟩
 all_goals
  first|go_enter func371,ntmps371|go_enter func248,ntmps248
  go_wp2_with (first
   |(at_builtin;refine Lib.wpList_append_run _ rfl _ _ _ _ rfl _ _ rfl rfl _ _ (aa _) ?_)
   |(at_builtin;refine wpList_copy_runI _ rfl _ _ _ _ rfl _ _ rfl rfl (X _ _) ?_))
  go_region_law (refine step_copy_runI rfl _ _ _ _ rfl (.slice (some ⟨w.heap.size,i+1,none⟩) (cap - i) (G - (i+1))) (.slice (some ⟨g,i,none⟩) (cap - i) (cap - i)) (by simp[Act.eval,Act.put]) (by simp[Act.eval,Act.put]) (Y _ _ _) ?_)
  go_wp2;go_ret;refine⟨_,rfl,⟨by grind,.inr ⟨w.heap.size,G,_,rfl,hb,HB,a7,a4,by rw[ju,ju,Em];exact a5,by grind⟩⟩,HK.mono (by simp),.inr ?_⟩;intro k hk;simp[Value.ownBlock]at hk;omega
def acE (K:IK T S F O B z) (base n i h:Nat) (v u:gO) (xs:List gO) (w:gv) (J:w.ownsRow base T 1 v n xs) (D:w.heap[h]?=some (gI #[u] T)) (y:v.ownBlock≠some h) (A:u.oneCell'=true) (H:∀x∈xs,x.oneCell'=true) (X:i<=n) (l:n<=1048576) (I:base<=w.heap.size):
  Calls prog F #[v,gn i,oY h 1 1] w (Xv T base v n i xs u w):=by
 by_cases r:i=n
 .subst r;exact V8 K base i h v u xs w J D A l I
 .rcases J.2 with⟨_,V⟩|⟨g,cap,o,rfl,q,f,s,R,m,d⟩
  .omega
  .have N:h≠g:=λe=>y (by rw[e];rfl);rw[Em]at m d
   by_cases U:n+1<=cap
   .exact PQ K base g cap n i h u o xs w q f d m R U (by omega) D N A H l
   .exact SI K base g cap n i h u o xs w f d m s (by omega) (by omega) D A H l I
end
def wY.VW (h:wY base b j tB C v xs w) (d:∀x∈xs,tr w x):ac2 v xs w:=aaS h.row d
def wY.nr (h:wY base b j tB C v xs w):v.ownBlock≠some b:=by
 intro d;rcases h.row.2 with⟨e,_⟩|⟨g,cap,f,e,_,l,_⟩
 .rw[e]at d;cases d
 .rw[e]at d;obtain rfl:=jL d;exact xW l h.ir (xu h.ne) rfl
def row_one (xs:kQ):∀u∈xs.map kh,u.oneCell'=true:=by
 intro u d;obtain⟨x,_,rfl⟩:=List.mem_map.1 d;rfl
def oz (base b j:Nat) (tB:TypeId) (C:jM) (v:gO) (ys:kQ) (w w':gv):Prop:=
 ∃d,wY base b j tB (C.setIfInBounds j d) d ys w'/\Kept (b::v.ownBlock.toList) w w'/\(d.ownBlock=v.ownBlock\/∀k,d.ownBlock=some k->w.heap.size<=k)
def sX (h:C[j]?=some v):j < C.size:=(Array.getElem?_eq_some_iff.1 h).1
def YZ (base b j:Nat) (tB:TypeId) (C:jM) (v:gO) (xs:kQ) (w:gv) (h:wY base b j tB C v xs w):
  Calls prog 160 #[jG b j] w λe w'=>e=iq (kh (iB xs ((xs.length:Int) - 1)))/\w'=w:=by
 have f:=h.at;have d:=h.le;obtain⟨ao,cap,rfl⟩:=gG h.row;have H:=YY base b j tB C _ xs ((xs.length:Int) - 1) w h;go_enter func160,ntmps160
 go_wp21
 refine H.mono ?_;rintro e w' ⟨rfl,rfl⟩;go_wp2;go_ret;simp
def acK (base b j:Nat) (tB:TypeId) (C:jM) (v:gO) (xs:kQ) (x:jg) (w:gv) (h:wY base b j tB C v xs w) (l:∀x∈xs,tr w x) (n:tr w x):
  Calls prog 303 #[jG b j,kh x] w λe w'=>e=iq (.bool (decide (x∈xs)))/\w'=w:=by
 have o:=h.at;have m:=h.le;have g:Calls prog 333 #[v,kh x] w λe w'=>e=iq (.bool (decide (x∈xs)))/\w'=w:=by
  have H:=EN v xs x w (h.VW l) n h.le;have f:decide (0<=posOf xs x)=decide (x∈xs):=by
   unfold posOf
   by_cases s:x∈xs
   .grind
   .grind
  have d:=fU f;clear f;generalize posOf xs x=q at H d;generalize decide (x∈xs)=r at d|-;go_enter func333,ntmps333
  go_wp21
  refine H.mono ?_;rintro e w' ⟨rfl,rfl⟩;go_wp2;go_ret;exact⟨by rw[<-d.out];rfl,rfl⟩
 obtain⟨ao,cap,rfl⟩:=gG h.row;have H:=g;go_enter func303,ntmps303
 go_wp21
 refine H.mono ?_;rintro e w' ⟨rfl,rfl⟩;go_wp2;go_ret;simp
def NH (base b j:Nat) (tB:TypeId) (C:jM) (v:gO) (xs:kQ) (x:jg) (w:gv) (h:wY base b j tB C v xs w) (f:∀x∈xs,tr w x) (m:tr w x):
  Calls prog 227 #[jG b j,kh x] w λe w'=>e=iq (kh (iB xs (posOf xs x - 1)))/\w'=w:=by
 have n:=h.at;have g:=h.le;have l: -1<=posOf xs x/\posOf xs x<=4096:=by unfold posOf;split<;>omega
 have⟨hp1,hp2⟩:=l;have d:=EN v xs x w (h.VW f) m h.le;obtain⟨ao,cap,rfl⟩:=gG h.row;have H:=YY base b j tB C _ xs (posOf xs x - 1) w h;generalize posOf xs x=q at H d hp1 hp2|-;go_enter func227,ntmps227
 go_wp21
 refine d.mono ?_;rintro e w' ⟨rfl,rfl⟩
 go_wp21
 refine H.mono ?_;rintro e w' ⟨rfl,rfl⟩;go_wp2;go_ret;simp
def Y0 (base b j:Nat) (tB:TypeId) (C:jM) (v:gO) (xs:kQ) (x:jg) (w:gv) (h:wY base b j tB C v xs w) (hl:xs.length < 4096) (hb:base<=w.heap.size):
  Calls prog 253 #[jG b j,kh x] w λe w'=>e=p8/\oz base b j tB C v (xs++[x]) w w':=by
 have⟨i0,hi,hz0,hz1,hz2⟩:=tz adB;have c1:=h.at;have X:=h.nr;obtain⟨ao,cap,rfl⟩:=gG h.row;have H:=fU h;clear h;have f:Kept [] w (w.alloc (.cells #[kh x] 57)):=(Kept.refl _ _).alloc _;have Y:=f.ownsRow H.row (λ_ _=>by simp);have b1:=f.at H.ir (by simp);have I:=fY w (gI #[kh x] 57);have y:=fU I;clear I;go_enter func253,ntmps253;go_wp2_with (at_builtin;refine iw _ rfl _ _ 151 rfl base 57 i0 (.pointer none) 1 8 underlying151 hi hz0 hz1 hz2 rfl (by decide) (.slice ao xs.length cap) xs.length (xs.map kh) rfl Y ⟨w.heap.size,0,none⟩ 1 1 [kh x] rfl rfl (λk u r=>by rw[iY,fW y.out,<-r];simp) (λu r=>by simp at r;subst r;rfl) (by unfold maxLen;omega) (by omega) (by simp;omega) ?_);intro v' s d l A;have D:Kept (Value.slice ao xs.length cap).ownBlock.toList w s:=(f.mono (by simp)).grown l (λk n=> .inl (by grind));have q:s.heap[b]?=some (gI C tB):=D.at H.ir (by grind);have⟨ao',cap',hv⟩:=gG d;subst hv;have d1:s.cell? ⟨b,j,none⟩=some (.slice ao xs.length cap):=by rw[fW q];exact H.cell
 have d2:=gE q j;have J:=gg q j (.slice ao' (xs.length+1) cap');have o:(Value.slice ao' (xs.length+1) cap').ownBlock≠some b:=by
  intro n;rcases d.2 with⟨e,_⟩|⟨g,cap,U,e,_,V,_⟩
  .omega
  .rw[e]at n;obtain rfl:=jL n;exact xW V q (xu H.ne) rfl
 have Z:=yB (a:=⟨b,j,none⟩) d o (.slice ao' (xs.length+1) cap');have N:Kept (b::(Value.slice ao xs.length cap).ownBlock.toList) w (s.setCell ⟨b,j,none⟩ (.slice ao' (xs.length+1) cap')):=(D.mono (λk n _=>oW _ n)).setCell (.inl (by simp)) _;have m:(Value.slice ao' (xs.length+1) cap').ownBlock=(Value.slice ao xs.length cap).ownBlock\/∀k,(Value.slice ao' (xs.length+1) cap').ownBlock=some k->w.heap.size<=k:=by
  rcases A with e|e
  .grind
  .grind
 have R:=m;go_wp2;go_end0;refine⟨rfl,_,⟨J,?_,?_,H.ne,by grind⟩,N,R⟩
 .simp[sX H.out.cell]
 grind
def acM (base b j:Nat) (tB:TypeId) (C:jM) (v:gO) (xs:kQ) (w:gv) (h:wY base b j tB C v xs w):
  Calls prog 165 #[jG b j] w λe w'=>e=iq (kh (iB xs ((xs.length:Int) - 1)))/\oz base b j tB C v xs.dropLast w w':=by
 have s:=YZ base b j tB C v xs w h;have Y:=h.at;have J:=h.le;have o:=h.nr;obtain⟨ao,cap,rfl⟩:=gG h.row;have U:xs.length<=cap:=by
  rcases h.row.2 with⟨e,A⟩|⟨g,d,f,e,_,_,n,_⟩
  .omega
  .grind
 obtain⟨m,N⟩:∃m:Nat,m=xs.length - 1:=⟨_,rfl⟩;have R:max (0:Int) ((xs.length:Int) - 1)=(m:Int):=by omega
 have Z:=gE h.ir j;have y:oz base b j tB C (.slice ao xs.length cap) xs.dropLast w (w.drew.setCell ⟨b,j,none⟩ (.slice ao m cap)):=by
  have V:(w.drew.setCell ⟨b,j,none⟩ (.slice ao m cap)).ownsRow base 57 1 (.slice ao m cap) xs.dropLast.length (xs.dropLast.map kh):=by
   have q:w.ownsRow base 57 1 (.slice ao m cap) xs.dropLast.length (xs.dropLast.map kh):=by
    refine⟨by simp,?_⟩;rcases h.row.2 with⟨e,A⟩|⟨g,d,f,e,l,D,n,H,I,r⟩
    .grind
    .injection e with e1 e2 e3;refine .inr ⟨g,cap,f,by grind,l,D,by grind,by omega,by omega,?_⟩;rw[Em]at r|-;rw[List.length_dropLast,List.map_dropLast,<-r,Z2,MG]
     grind
   refine yB (a:=⟨b,j,none⟩) (w:=w.drew) q ?_ _;have:(Value.slice ao m cap).ownBlock=(Value.slice ao xs.length cap).ownBlock:=by cases ao<;>rfl
   rw[this];exact o
  refine⟨_,⟨gg (w:=w.drew) h.ir j _,?_,V,h.ne,by grind⟩,(Kept.refl _ w).drew.setCell (.inl (by simp)) _,.inl (by cases ao<;>rfl)⟩;simp[sX h.cell]
 clear h N;go_enter func165,ntmps165
 go_wp21
 refine s.mono ?_;rintro e w' ⟨rfl,X⟩;subst X
 go_wp21
 go_region;go_wp2;go_ret;exact⟨rfl,y⟩
def sE (xs:kQ) (x:jg):(x∉xs/\posOf xs x= -1)\/∃n:Nat,posOf xs x=n/\n < xs.length/\n=xs.idxOf x/\xs[n]?=some x:=by
 unfold posOf
 by_cases f:x∈xs
 .have d:=List.idxOf_lt_length_iff.2 f;rw[gF d];exact .inr ⟨_,rfl,d,rfl,by rw[ry d];simp⟩
 .rw[gQ (λd=>f (List.idxOf_lt_length_iff.1 d))];exact .inl ⟨f,rfl⟩
def DB {n : Nat} (d:n=xs.idxOf x):xs.take n++xs.drop (n+1)=xs.erase x:=by
 rw[<-List.eraseIdx_eq_take_drop_succ,d,List.erase_eq_eraseIdx_of_idxOf rfl]
def oz.refl (h:wY base b j tB C v xs w):oz base b j tB C v xs w w:=by
 have e:C.setIfInBounds j v=C:=by
  have:=h.cell;apply Array.ext_getElem?;intro i
  by_cases d:j=i
  .grind
  .grind
 exact⟨v,by grind,Kept.refl _ _,.inl rfl⟩
def Am (base b j:Nat) (tB:TypeId) (C:jM) (v:gO) (xs:kQ) (x:jg) (w:gv) (h:wY base b j tB C v xs w) (he:∀x∈xs,tr w x) (hx:tr w x):
  Calls prog 168 #[jG b j,kh x] w λe w'=>e=p8/\oz base b j tB C v (xs.erase x) w w':=by
 have c1:=h.at;have y:=EN v xs x w (h.VW he) hx h.le;rcases sE xs x with⟨U,V⟩|⟨n,V,a0,hn,_⟩
 .have HF:=oz.refl h;rw[List.erase_of_not_mem U];obtain⟨ao,cap,rfl⟩:=gG h.row;rw[V]at y;clear h;go_enter func168,ntmps168;go_wp2_with fail;refine y.mono ?_;rintro e w' ⟨rfl,Y⟩;subst Y;go_wp2;go_end0
  grind
 .have r:=h.nr;have N:=h.le;rcases h.row.2 with⟨_,e0⟩|⟨g,cap,D,rfl,I,o,R,hm,s,d⟩
  .omega
  rw[Em]at s d;have HD:=adp g cap n (n+1) xs.length D w o R s (by omega) (by omega) N (by rw[d];exact row_one xs);rw[show((n+1:Nat):Int)=(n:Int)+1 by omega,show xs.length - (n+1 - n)=xs.length - 1 by omega]at HD;have HN:=fU hn;clear hn;have H:=fU h;have HT:=fU d;rw[V]at y;clear h d;go_enter func168,ntmps168;go_wp2_with fail;refine y.mono ?_;rintro e w' ⟨rfl,Y⟩;subst Y;go_wp2_with fail;refine HD.mono ?_;rintro e Z ⟨rfl,m,J,a1,X,q⟩;have A:=q.at H.ir (by intro l;exact r (by simp at l;rw[l];rfl));have d1:Z.cell? ⟨b,j,none⟩=some (oY g xs.length cap):=by rw[fW A];exact H.cell
  have d2:=gE A j;have H3:=gg A j (oY g (xs.length - 1) cap);have f:(xs.erase x).length=xs.length - 1:=by rw[<-DB HN.out];simp;omega
  have r2:Z.ownsRow base 57 1 (oY g (xs.length - 1) cap) (xs.erase x).length ((xs.erase x).map kh):=by
   refine⟨by simp,.inr ⟨g,cap,m,by rw[f],I,J,by omega,hm,by omega,?_⟩⟩;rw[Em,f,X,HT.out,<-DB HN.out,rA,List.map_take,List.map_drop]
  have H4:=yB (a:=⟨b,j,none⟩) r2 r (oY g (xs.length - 1) cap);have H5:Kept (b::(oY g xs.length cap).ownBlock.toList) w' (Z.setCell ⟨b,j,none⟩ (oY g (xs.length - 1) cap)):=(q.mono (λk hk _=>by simp at hk;subst hk;simp[Value.ownBlock])).setCell (.inl (by simp)) _;have HL:=fU f;clear f;go_wp2;go_end0;exact⟨rfl,_,⟨H3,by simp[sX H.out.cell],H4,H.ne,by grind⟩,H5,.inl rfl⟩
def pM (xs:kQ) (x y:jg):kQ:=if x∈xs then xs.set (xs.idxOf x) y else xs
def jb (xs:kQ) (x y:jg):kQ:=if x∈xs then xs.take (xs.idxOf x+1)++[y]++xs.drop (xs.idxOf x+1)else xs
def oe (xs:kQ) (x:jg):kQ:=((xs.reverse.dropWhile (·≠x)).tail).reverse
def oz.trans {v' : gO} {ys h : kQ} {g : gv}
  (m:wY base b j tB (C.setIfInBounds j v') v' ys w1) (f:Kept (b::v.ownBlock.toList) w w1) (n:v'.ownBlock=v.ownBlock\/∀k,v'.ownBlock=some k->w.heap.size<=k)
  (l:oz base b j tB (C.setIfInBounds j v') v' h w1 g):oz base b j tB C v h w g:=by
 have⟨v2,L2,k2,f2⟩:=l;refine⟨v2,by simp_all,f.next k2 ?_,?_⟩
 .grind
 .rcases f2 with e|e
  .grind
  .exact .inr λk d=>jP f.size (e k d)
def ES (base b j:Nat) (tB:TypeId) (C:jM) (v:gO) (xs:kQ) (x y:jg) (w:gv) (h:wY base b j tB C v xs w) (Z:∀x∈xs,tr w x) (hx:tr w x):
  Calls prog 258 #[jG b j,kh x,kh y] w λe w'=>e=p8/\oz base b j tB C v (pM xs x y) w w':=by
 have c1:=h.at;have o:=EN v xs x w (h.VW Z) hx h.le;rcases sE xs x with⟨I,N⟩|⟨n,N,a0,D,X⟩;have U:=oz.refl h;have R:pM xs x y=xs:=by unfold pM;rw[gQ I]
 rw[R];obtain⟨ao,cap,rfl⟩:=gG h.row;rw[N]at o
 rotate_left
 have J:=h.nr;have A:=h.le;have R:pM xs x y=xs.set n y:=by unfold pM;rw[gF (tA X),<-D]
 rw[R];rcases h.row.2 with⟨_,e0⟩|⟨g,cap,l,rfl,r,d,H,hm,m,f⟩
 .omega
 rw[Em]at m f;have s:g≠b:=λe=>J (by rw[e];rfl);have V:∃u,w.cell? ⟨g,n,none⟩=some u:=⟨l[n]'(by omega),by rw[fW d];simp⟩;have⟨u,V⟩:=V;have d2:=gE d n;have U:oz base b j tB C (oY g xs.length cap) (xs.set n y) w (w.setCell ⟨g,n,none⟩ (kh y)):=by
  have q:(w.setCell ⟨g,n,none⟩ (kh y)).heap[b]?=some (gI C tB):=by rw[Below.heap_setCell w ⟨g,n,none⟩ _ b (xu s)];exact h.ir
  have Y:wY base b j tB C (oY g xs.length cap) (xs.set n y) (w.setCell ⟨g,n,none⟩ (kh y)):=by
   refine⟨q,h.cell,⟨by simp,.inr ⟨g,cap,_,by simp,r,gg d n (kh y),by simpa using H,hm,by simpa using m,?_⟩⟩,h.ne,by simpa using A⟩;have:(l.setIfInBounds n (kh y)).toList=l.toList.set n (kh y):=by simp
   rw[this,List.length_set,Em,List.take_set,f,List.map_set]
  have⟨v',L',k',f'⟩:=oz.refl Y;exact⟨v',L',(((Kept.refl _ w).setCell (p:=⟨g,n,none⟩) (.inl (by simp[Value.ownBlock])) _).trans k'),by simpa using f'⟩
 have HN:=fU D;rw[N]at o;clear D
 all_goals
  go_enter func258,ntmps258
  go_wp21
  refine o.mono ?_;rintro e w' ⟨rfl,hw⟩;subst hw;go_wp2;go_end0;exact⟨rfl,U⟩
def Gb (base b j:Nat) (tB:TypeId) (C:jM) (v:gO) (xs:kQ) (x y:jg) (w:gv) (h:wY base b j tB C v xs w) (he:∀x∈xs,tr w x) (hx:tr w x) (hl:xs.length < 4096) (hb:base<=w.heap.size):
  Calls prog 360 #[jG b j,kh x,kh y] w λe w'=>e=p8/\oz base b j tB C v (jb xs x y) w w':=by
 have c1:=h.at;have o:=EN v xs x w (h.VW he) hx h.le;rcases sE xs x with⟨J,R⟩|⟨n,R,a4,I,HX⟩
 .have r:=oz.refl h;have U:jb xs x y=xs:=by unfold jb;rw[gQ J]
  rw[U];obtain⟨ao,cap,rfl⟩:=gG h.row;rw[R]at o;clear h;go_enter func360,ntmps360
  go_wp21
  refine o.mono ?_;rintro e w' ⟨rfl,V⟩;subst V;go_wp2;go_end0;exact⟨rfl,r⟩
 .have N:=h.nr;have a3:=h.le;have U:jb xs x y=xs.take (n+1)++[y]++xs.drop (n+1):=by unfold jb;rw[gF (tA HX),<-I]
  rw[U];have d:Kept [] w (w.alloc (.cells #[kh y] 57)):=(Kept.refl _ _).alloc _;have v1:=fY w (gI #[kh y] 57);have a1:(w.alloc (gI #[kh y] 57)).heap.size=w.heap.size+1:=by simp
  have a5:=h.row.lt;have X:=acE (.inl ⟨rfl,rfl,rfl,rfl,rfl,rfl⟩) base xs.length (n+1) w.heap.size v (kh y) (xs.map kh) (w.alloc (gI #[kh y] 57)) (d.ownsRow h.row (λ_ _=>by simp)) v1 (λe=>by grind) rfl (row_one xs) (by omega) (by omega) (by omega);rw[show((n+1:Nat):Int)=(n:Int)+1 by omega]at X;have a0:=d.at h.ir (by simp);obtain⟨ao,cap,rfl⟩:=gG h.row;have H:=fU h;have HN:=fU I;rw[R]at o;clear h I;go_enter func360,ntmps360
  go_wp21
  refine o.mono ?_;rintro e w' ⟨rfl,V⟩;subst V
  go_wp21
  refine X.mono ?_;rintro e q ⟨v',rfl,f,D,A⟩;have⟨ao',cap',hv⟩:=gG f;subst hv;have Y:Kept (Value.slice ao xs.length cap).ownBlock.toList w' q:=(d.mono (by simp)).trans (S:=(Value.slice ao xs.length cap).ownBlock.toList) D;have s:q.heap[b]?=some (gI C tB):=Y.at H.ir (by simpa using N);have d1:q.cell? ⟨b,j,none⟩=some (.slice ao xs.length cap):=by rw[fW s];exact H.cell
  have d2:=gE s j;have H3:=gg s j (.slice ao' (xs.length+1) cap');have m:(Value.slice ao' (xs.length+1) cap').ownBlock≠some b:=by
   intro Z;rcases f.2 with⟨e,_⟩|⟨g,cap,a2,e,_,hc,_⟩
   .omega
   .grind
  have H4:=yB (a:=⟨b,j,none⟩) f m (.slice ao' (xs.length+1) cap');have H5:Kept (b::(Value.slice ao xs.length cap).ownBlock.toList) w' (q.setCell ⟨b,j,none⟩ (.slice ao' (xs.length+1) cap')):=(Y.mono (λk Z _=>oW _ Z)).setCell (.inl (by simp)) _;have l:(Value.slice ao' (xs.length+1) cap').ownBlock=(Value.slice ao xs.length cap).ownBlock\/∀k,(Value.slice ao' (xs.length+1) cap').ownBlock=some k->w'.heap.size<=k:=by
   rcases A with e|e
   .exact .inl e
   .grind
  have r:=l;go_wp2;go_end0;refine⟨rfl,_,⟨H3,by simp[sX H.out.cell],?_,H.ne,by simp;omega⟩,H5,r⟩;have e1:(xs.take (n+1)++[y]++xs.drop (n+1)).length=xs.length+1:=by simp;omega
  simp_all
def WC (x:jg):oe [] x=[]:=rfl
def S9 (xs:kQ) (y x:jg):oe (xs++[y]) x=if y=x then xs else oe xs x:=by
 unfold oe;rw[U4]
 by_cases h:y=x
 all_goals simp_all
def IM (xs:kQ) (y:jg):iB (xs++[y]) (((xs++[y]).length:Int) - 1)=y:=by
 unfold iB;rw[gF (by grind)];simp
def An (a:Addr) (w:gv):Nat:=match w.cell? a with
 |some (.slice _ n _)=>n
 |_=>0
def wY.An (h:wY base b j tB C v xs w):An ⟨b,j,none⟩ w=xs.length:=by
 obtain⟨ao,cap,rfl⟩:=gG h.row;unfold YtofkkmcdggkkpaaGreatDoor.An;rw[h.at]
def tr.kept (h:tr w x) (g:Kept S w w') (f:∀k,x=some k->k∉S):tr w' x:=by
 intro k d;have⟨c,hc⟩:=h k d;exact⟨c,g.at hc (f k d)⟩
def Iv (h:wY base b j tB C v xs w) (m:tB≠142) (o:tr w x):∀k,x=some k->k∉b::v.ownBlock.toList:=by
 intro k n d;have⟨c,hc⟩:=o k n;rcases List.mem_cons.1 d with rfl|d
 .exact xW h.ir hc m rfl
 .rcases h.row.2 with⟨e,_⟩|⟨g,cap,l,e,_,f,_⟩
  .rw[e]at d;simp[Value.ownBlock]at d
  .rw[e]at d;simp[Value.ownBlock]at d
   grind
def Uq (base b j:Nat) (tB:TypeId) (C:jM) (v:gO) (xs:kQ) (x:jg) (w:gv) (h:wY base b j tB C v xs w) (Y:tB≠142) (Z:∀x∈xs,tr w x) (hx:tr w x):
  Calls prog 309 #[jG b j,kh x] w λe w'=>e=p8/\oz base b j tB C v (oe xs x) w w':=by
 have h0:=oz.refl h;have hE:=Z;have hX:=hx;have hO:=(λy hy=>Iv h Y (Z y hy));have J:=Iv h Y hx;go_enter func309,ntmps309;go_wp2
 go_loopw [9] (λ_ wr=>∃g,(∀y∈g,y∈xs)/\oe g x=oe xs x/\oz base b j tB C v g w wr) (λ_ wr=>An ⟨b,j,none⟩ wr)
 case atStart=>grind
 case round=>
  have⟨g,hS,hpt,v',L1,k1,f1⟩:=hrel;have o:=L1.An;have I:=L1.at;have⟨ao,cap,hv⟩:=gG L1.row;have N:g=[]\/∃f y,g=f++[y]:=by
   rcases Z3 g with h|⟨f,y,h⟩
   .grind
   .grind
  rcases N with rfl|⟨f,y,rfl⟩
  .rw[hv]at I;have A:=(show oz base b j tB C v (oe xs x) w wr from⟨v',by rw[<-hpt,WC];exact L1,k1,f1⟩);clear L1 o;go_wp2;go_end0
   grind
  .rw[hv]at I;have n:0 < (f++[y]).length:=by simp
   have V:=acM base b j tB _ v' _ wr L1;rw[IM]at V;have HY:tr w y:=hE y (hS y (by simp));have D:=hO y (hS y (by simp));have HT:=(λ(r:gv) (h2:oz base b j tB (C.setIfInBounds j v') v' (f++[y]).dropLast wr r)=>oz.trans L1 k1 f1 h2);have HL:=fU L1;have hq:=fU (show oe xs x=if y=x then f else oe f x by rw[<-hpt,S9]);have q:=fU o;obtain⟨m,s⟩:∃m,m=(f++[y]).length:=⟨_,rfl⟩;rw[<-s]at I n q;have HM:=fU s;have a0:m<=4096:=by rw[s];exact L1.le
   clear L1 o s
   go_wp21
   refine V.mono ?_;rintro e r ⟨rfl,R⟩;have X:=HT r R;rw[RH]at X;have⟨v2,L2,k2,f2⟩:=X;have l:=Cc (HY.kept k2 D) (hX.kept k2 J);have U:=fU L2.An
   by_cases d:y=x
   .rw[vp d]at l;have A:=(show oz base b j tB C v (oe xs x) w r from⟨v2,by rw[hq.out,gF d];exact L2,k2,f2⟩);clear L2 d;go_wp2
    (try simp only[Exit.inBlock,Exit.then])
    refine qf (Kr rfl _ _ _) rfl ?_
    grind
   .rw[xo d]at l;have A:=(show oz base b j tB C v f w r from⟨v2,L2,k2,f2⟩);have H:=fU d;clear L2 d;go_wp2;go_roundw
    case rel=>exact⟨f,λz o=>hS z (by simp[o]),by rw[hq.out,gQ H.out],A⟩
    case measure=>rw[U.out,q.out,HM.out];simp
attribute [local go_sem] Oper.semAt_some
def kB (K:List Nat) (W d:gv):Prop:=∀k∈K,d.heap[k]?=W.heap[k]?
def kB.refl (K:List Nat) (W:gv):kB K W W:=λ_ _=>rfl
def kB.trans {A B C : gv} (h:kB K A B) (k:kB K B C):kB K A C:=λx d=>(k x d).trans (h x d)
def kB.jU {d : gv} (h:Kept S W d) (f:∀k∈K,k < W.heap.size/\k∉S):kB K W d:=λk g=>h.block k (f k g).1 (f k g).2
def kB.put (f:∀k∈K,k < w.heap.size) (W:gv) (l:Nat) (o d:Obj) (h:w.heap.size<=l) (_:W.heap[l]?=some o) (_:o.isCells=false) (_:o.isWalk=false):kB K W (W.putObj l d):=
 λk g=>pk (by grind)
def wY.ER (h:wY base b j tB C v xs w) (l:kB K w w') (m:b∈K) (o:∀k,v.ownBlock=some k->k∈K):wY base b j tB C v xs w':=by
 refine⟨(l b m).trans h.ir,h.cell,⟨h.row.1,?_⟩,h.ne,h.le⟩;rcases h.row.2 with e|⟨g,cap,d,e,f,n,r⟩
 .grind
 .exact .inr ⟨g,cap,d,e,f,(l g (o g (by rw[e];rfl))).trans n,r⟩
def aec (m:Nat) (a6:1<=m) (base b j:Nat) (tB:TypeId) (C:jM) (v:gO) (xs:kQ) (n bN A l:Nat) (K:List Nat) (J Jx:List {x:jg // x∈xs}->gv->Prop)
  (hn:n<=xs.length) (a1:b∈K) (a0:A∈K) (a2:∀k,v.ownBlock=some k->k∈K)
  (hY:∀pre x W,J pre W->pre.length < n->YieldAt Fence.wide (m - 1) prog l #[kh x.1] W λe y=>
   (e=iq (.bool true)/\J (pre++[x]) y/\kB K W y)\/(e=iq (.bool false)/\Jx (pre++[x]) y))
  (W:gv) (h:wY base b j tB C v xs W) (hN:W.cell? ⟨bN,0,none⟩=some (gn n)) (hL:W.cell? ⟨A,0,none⟩=some (jG b j)) (h0:J [] W):
  CallsIn Fence.wide m prog 341 #[.func (.yield l) #[] #[],gJ bN,gJ A] W λe y=>(∃r,e=iq r)/\
   ((∃ys,ys.map (·.1)=(xs.take n).reverse/\J ys y)\/(∃pre,pre.map (·.1) <+:(xs.take n).reverse/\Jx pre y)):=by
 refine callsIn_of_wp func341 rfl trivial ?_ rfl;simp only[ntmps341,wM,qe,uS,Nat.reduceAdd,Nat.reduceSub,wN,wO,wP,wQ,ru,uT];have a4:=h.le;have HL:=fU h;clear h;have HY:=fU hY;clear hY;gi_wp2
 gi_loopw [4] (λi wr=>∃(k:Nat) (pre:List {x:jg // x∈xs}),k<=n/\pre.length=k/\i=gn ((n:Int) - 1 - k)/\pre.map (·.1)=(xs.take n).reverse.take k/\kB K W wr/\J pre wr)
  (λi _=>((intOf i)+1).toNat)
 case atStart=>grind[kB]
 case round=>
  obtain⟨k,pre,hk,a7,rfl,s,f,hJ⟩:=hrel;have L1:=HL.out.ER f a1 a2;have cL:wr.cell? ⟨A,0,none⟩=some (jG b j):=(Z1 (w:=W) (f A a0)).trans hL;have HP:=fU s;have V:=fU f;clear s f
  by_cases a5:k < n
  .obtain⟨q,hq⟩:∃q:Nat,q=n - 1 - k:=⟨_,rfl⟩;have N:(n:Int) - 1 - k=(q:Int):=by omega
   have g:q < xs.length:=by omega
   rw[N];have Y:=YY base b j tB C v xs (q:Int) wr L1;have hg:iB xs (q:Int)=xs[q]:=by unfold iB;rw[gF (by omega)];simp[g]
   rw[hg]at Y;have HA:=fU Y;have⟨fn,tmps,assign,body,hy,hR⟩:=HY.out pre ⟨xs[q],uR g⟩ wr hJ (by omega);dsimp only at hy;have d:(pre++[(⟨xs[q],uR g⟩:{x:jg // x∈xs})]).map (·.1)=(xs.take n).reverse.take (k+1):=by
    have I:(xs.take n).length=n:=by simp;omega
    have e1:(xs.take n).reverse[k]?=some xs[q]:=by
     rw[RK (by omega),I,BN,gF (by omega),show n - 1 - k=q from hq.symm,ry g]
    rw[rA,HP.out,Ks,e1];rfl
   have HS:=fU d;have HR:=fU hR;have HQ:=fU hq;clear Y hg d hR L1 hq N
   gi_wp2_with (refine⟨trivial,?_⟩;gi_at_call 229;refine(callsIn_wide.2 HA.out).mono ?_;rintro e w' ⟨rfl,rfl⟩)
   refine HR.out.mono ?_;rintro e W3 (⟨rfl,Z,H⟩|⟨rfl,D⟩)
   .have U:=fU (V.out.trans H);clear H;gi_wp2;go_roundw
    case rel=>exact⟨k+1,_,by omega,by grind,by have:=HQ.out;grind,HS.out,U.out,Z⟩
    case measure=>simp[intOf]
   .gi_wp2;refine qf (Kr rfl _ _ _) rfl ?_;refine⟨⟨_,rfl⟩,.inr ⟨_,?_,D⟩⟩;rw[HS.out];exact List.take_prefix _ _
  .have a3:k=n:=by omega
   have R:pre.map (·.1)=(xs.take n).reverse:=by
    rw[HP.out,AN (by grind)]
   have X:=fU R;have o:(n:Int) - 1 - k= -1:=by omega
   rw[o];clear R a3 o;gi_wp2;go_end0;exact⟨⟨_,rfl⟩,.inl ⟨pre,X.out,hJ⟩⟩
abbrev mu (b j:Nat) (n:Int) (w:gv):gv:=(w.alloc (gI #[jG b j] 256)).alloc (gI #[gn n] 3)
abbrev uQ (s:Nat):gO:= .func (.func 341) #[] #[gJ (s+1),gJ s]
def MF (b j:Nat) (n:Int) (w:gv):
  Calls prog 311 #[jG b j,gn n] w λe w'=>e=iq (uQ w.heap.size)/\w'=mu b j n w:=by
 go_enter func311,ntmps311;go_wp2;go_ret;simp
def Wi (base b j:Nat) (tB:TypeId) (C:jM) (v:gO) (xs:kQ) (w:gv) (h:wY base b j tB C v xs w):
  Calls prog 276 #[jG b j] w λe w'=>e=iq (uQ w.heap.size)/\w'=mu b j xs.length w:=by
 have g:=h.at;obtain⟨ao,cap,rfl⟩:=gG h.row;have H:=MF b j xs.length w;go_enter func276,ntmps276
 go_wp21
 refine H.mono ?_;rintro e w' ⟨rfl,d⟩;have f:=fU d;clear d;go_wp2;go_ret;exact⟨rfl,f⟩
def abc (base b j:Nat) (tB:TypeId) (C:jM) (v:gO) (xs:kQ) (x:jg) (w:gv) (h:wY base b j tB C v xs w) (l:∀x∈xs,tr w x) (m:tr w x):
  Calls prog 369 #[jG b j,kh x] w λe w'=>e=iq (uQ w.heap.size)/\w'=mu b j (posOf xs x) w:=by
 have n:=h.at;have f:=EN v xs x w (h.VW l) m h.le;obtain⟨ao,cap,rfl⟩:=gG h.row;have H:=MF b j (posOf xs x) w;generalize posOf xs x=q at H f|-;go_enter func369,ntmps369
 go_wp21
 refine f.mono ?_;rintro e w' ⟨rfl,d⟩;subst d
 go_wp21
 refine H.mono ?_;rintro e w' ⟨rfl,d⟩;have g:=fU d;clear d;go_wp2;go_ret;exact⟨rfl,g⟩
def Rw (m:Nat) (A:1<=m) (base b j:Nat) (tB:TypeId) (C:jM) (v:gO) (xs:kQ) (n s:Nat) (K:List Nat) (w:gv)
  (h:wY base b j tB C v xs w) (V:n<=xs.length) (o:b∈K) (g:s∈K) (q:∀k,v.ownBlock=some k->k∈K) (y:s+1 < w.heap.size)
  (R:w.heap[s+1]?=some (gI #[gn n] 3)) (N:w.heap[s]?=some (gI #[jG b j] 256)):
  SeqStopsK Fence.wide m prog 341 #[gJ (s+1),gJ s] (λx:{x:jg // x∈xs}=>#[kh x.1]) (kB K)
   (λX=>X.map (·.1)=(xs.take n).reverse) (λpre=>pre.map (·.1) <+:(xs.take n).reverse) n w:=by
 intro l J D W f _ _ U I;have r:=jk h.ir;have H:wY base b j tB C v xs W:=by
  refine h.ER (K:=b::v.ownBlock.toList) (λk d=>f.block k ?_) (by simp) (λk d=>by simp[d]);rcases List.mem_cons.1 d with rfl|d
  .exact r
  .exact(h.row.lt k (by grind)).2
 exact aec m A base b j tB C v xs n (s+1) s l K J D V o g q U W H (by rw[fW ((f.block _ y).trans R)];rfl) (by rw[fW ((f.block _ (by omega)).trans N)];rfl) I
def kC (a b:gy):Bool:=a.toList==b.toList
def xg {a b : gy}:kC a b=true↔a=b:=by
 unfold kC;rw[sJ,sJ,beq_iff_eq];exact⟨λh=>WideShapes.bytes_inj h,λh=>by rw[h]⟩
def Yr {a b : gy}:kC a b=false↔a≠b:=by rw[Ne,<-xg];simp
def ij (d:List gy) (x:gy):Bool:=d.any (kC x)
def Qu (d:List gy) (s:gy):Int:=if d.findIdx (kC s) < d.length then (d.findIdx (kC s):Int)else -1
def abC {xs : List gy} {x : gy} (m:k < xs.length) (h:xs[k]=x) (g:∀j,j < k->xs[j]?≠some x):Qu xs x=k:=by
 have o:xs.findIdx (kC x)=k:=by
  have f:xs.findIdx (kC x) < xs.length:=Z4 ⟨x,h▸uR m,xg.2 rfl⟩;have l:¬xs.findIdx (kC x) < k:=λd=>g _ d (by
   rw[ry f];exact sK some (xg.1 (List.findIdx_getElem (w:=f))).symm)
  have n:¬k < xs.findIdx (kC x):=λd=>by
   have:=List.not_of_lt_findIdx d;rw[h]at this;exact absurd (xg.2 rfl) (by simpa using this)
  omega
 grind[Qu]
def abD {xs : List gy} {x : gy} (d:∀j,j < xs.length->xs[j]?≠some x):Qu xs x= -1:=by
 unfold Qu;rw[gQ];intro h;exact d _ h (by rw[ry h];exact sK some (xg.1 (List.findIdx_getElem (w:=h))).symm)
def Zq (xs:List gy) (x:gy):decide (0<=Qu xs x)=ij xs x:=by
 grind[Qu,ij]
def aa2 (g cap:Nat) (d:List gy) (x:gy) (w:gv) (s:∀k,(I:k < d.length)->w.cell? ⟨g,k,none⟩=some (gH d[k])) (J:d.length<=4096):
  Calls prog 310 #[oY g d.length cap,gH x] w λe w'=>e=iq (gn (Qu d x))/\w'=w:=by
 have A:=fU s;clear s;go_enter func310,ntmps310;go_wp2
 go_loopw [8] (λi wr=>∃k:Nat,k<=d.length/\i=gn k/\wr=w/\∀j,j < k->d[j]?≠some x) (λi _=>d.length - (intOf i).toNat)
 case atStart=>grind
 case round=>
  obtain⟨k,I,rfl,rfl,q⟩:=hrel
  by_cases f:k < d.length
  .have D:=A k f;obtain⟨y,o⟩:∃y,y=d[k]:=⟨_,rfl⟩;rw[<-o]at D;have r:=fU o;clear o
   by_cases l:x=y
   .have n:=fU (abC f (r.symm.trans l.symm) q);subst l;go_wp2;go_ret;exact⟨by rw[n.out];rfl,rfl⟩
   .have m:=l;have N:(x.toList==y.toList)=false:=Yr.2 l;go_wp2;go_roundw
    case rel=>
     refine⟨k+1,by omega,by go_num,by simp,λj H=>?_⟩
     by_cases e:j=k
     .subst e;rw[ry f];exact λh=>m ((jL h).symm.trans r.symm)
     grind
    case measure=>simp[intOf];omega
  .have n:=fU (abD (xs:=d) (x:=x) (λj H=>q j (by omega)));go_wp2;go_ret;exact⟨by rw[n.out];rfl,rfl⟩
def Na (g cap:Nat) (d:List gy) (x:gy) (w:gv) (l:∀k,(hk:k < d.length)->w.cell? ⟨g,k,none⟩=some (gH d[k])) (h:d.length<=4096):
  Calls prog 274 #[oY g d.length cap,gH x] w λe w'=>e=iq (.bool (ij d x))/\w'=w:=by
 have H:=aa2 g cap d x w l h;have f:=fU (Zq d x);generalize Qu d x=q at H f;generalize ij d x=r at f|-;go_enter func274,ntmps274
 go_wp21
 refine H.mono ?_;rintro e w' ⟨rfl,rfl⟩;go_wp2;go_ret;exact⟨by rw[<-f.out];rfl,rfl⟩
structure nQ (E:List Nat) (v:gO) (p:gy->Bool) (w:gv):Prop where
 ex:∃k lb,v= .func (.func k) #[] lb/\Enters prog k/\∀W,kB E w W->∀s,Calls prog k (#[gH s]++lb) W λe W'=>e=iq (.bool (p s))/\W'=W
 lt:∀e∈E,e < w.heap.size
def nQ.keeps (h:nQ E v p w) (m:kB E w w') (o:w.heap.size<=w'.heap.size):nQ E v p w':=by
 obtain⟨⟨k,q,rfl,l,g⟩,n⟩:=h;exact⟨⟨k,q,rfl,l,λW f s=>g W (m.trans f) s⟩,λe d=>lV (n e d) o⟩
def nQ.kept (h:nQ E v p w) (f:Kept S w w') (g:∀e∈E,e∉S):nQ E v p w':=
 h.keeps (kB.jU f λk d=>⟨h.lt k d,g k d⟩) f.size
def nQ.il (h:nQ E v p w) (d:Kept [] w w'):nQ E v p w':=h.kept d (λ_ _=>by simp)
def nY (h:kB E w W) (d:b∈E) (f:w.heap[b]?=some (gI c t)):W.heap[b]?=some (gI c t):=(h b d).trans f
def YP (bs g cap:Nat) (d:List gy) (w:gv) (m:w.heap[bs]?=some (gI #[oY g d.length cap] 210)) (n:w.heap[g]?=some (gI (d.map Value.string).toArray 9)) (f:d.length<=4096):
  nQ [bs,g] (.func (.func 273) #[] #[gJ bs]) (ij d) w:=by
 refine⟨⟨_,_,rfl,enters_of func273 (by rfl) rfl,λW h s=>?_⟩,λe o=>?_⟩
 .have l:=fW (nY h (by simp) m) 0;dsimp at l;have H:=Na g cap d s W (λk q=>by rw[fW (nY h (by simp) n)];simp) f;show Calls prog 273 #[gH s,gJ bs] W _;generalize ij d s=r at H|-;go_enter func273,ntmps273
  go_wp21
  refine H.mono ?_;rintro e w' ⟨rfl,rfl⟩;go_wp2;go_ret;simp
 grind
def acF (g cap:Nat) (n:Nat) (w:gv):
  Calls prog 206 #[oY g n cap] w λe w'=>e=iq (.func (.func 273) #[] #[gJ w.heap.size])/\w'=w.alloc (gI #[oY g n cap] 210):=by
 go_enter func206,ntmps206;go_wp2;go_ret;simp
def kB.sub {K' : List Nat} {A B : gv} (h:kB K A B) (f:∀k∈K',k∈K):kB K' A B:=λk d=>h k (f k d)
def adX (h l:Nat) (y A:List Nat) (v1 v2:gO) (p q:gy->Bool) (w:gv) (X:w.heap[h]?=some (gI #[v1] 150)) (Y:w.heap[l]?=some (gI #[v2] 150)) (D:nQ y v1 p w) (H:nQ A v2 q w):
  nQ (h::l::(y++A)) (.func (.func 281) #[] #[gJ h,gJ l]) (λs=>p s||q s) w:=by
 refine⟨⟨_,_,rfl,enters_of func281 (by rfl) rfl,λW m s=>?_⟩,λe f=>?_⟩
 .have U:=fW (nY m (by simp) X) 0;have V:=fW (nY m (by simp) Y) 0;dsimp at U V;obtain⟨I,Z,rfl,e1,N⟩:=D.ex;obtain⟨J,a0,rfl,e2,R⟩:=H.ex;have g:=N W (m.sub (λk n=>by simp[n])) s;have o:=R W (m.sub (λk n=>by simp[n])) s;have f1:∀d w,(callFunc I d).run prog w= .ok (.enter I d) w:=e1;have f2:∀d w,(callFunc J d).run prog w= .ok (.enter J d) w:=e2;show Calls prog 281 #[gH s,gJ h,gJ l] W _;cases hps:p s with
  |true=>
   rw[hps]at g;go_enter func281,ntmps281
   go_wp21
   refine g.mono ?_;rintro e w' ⟨rfl,rfl⟩;go_wp2;go_ret;simp
  |false=>
   rw[hps]at g;generalize q s=r at o|-;go_enter func281,ntmps281
   go_wp21
   refine g.mono ?_;rintro e w' ⟨rfl,rfl⟩
   go_wp21
   refine o.mono ?_;rintro e w' ⟨rfl,rfl⟩;go_wp2;go_ret;simp
 .simp at f;rcases f with rfl|rfl|f|f
  .grind
  .grind
  .exact D.lt e f
  .exact H.lt e f
def aaz (h l:Nat) (y A:List Nat) (v1 v2:gO) (p q:gy->Bool) (w:gv) (X:w.heap[h]?=some (gI #[v1] 150)) (Y:w.heap[l]?=some (gI #[v2] 150)) (D:nQ y v1 p w) (H:nQ A v2 q w):
  nQ (h::l::(y++A)) (.func (.func 305) #[] #[gJ h,gJ l]) (λs=>p s&&!q s) w:=by
 refine⟨⟨_,_,rfl,enters_of func305 (by rfl) rfl,λW m s=>?_⟩,λe f=>?_⟩
 .have U:=fW (nY m (by simp) X) 0;have V:=fW (nY m (by simp) Y) 0;dsimp at U V;obtain⟨I,Z,rfl,e1,N⟩:=D.ex;obtain⟨J,a0,rfl,e2,R⟩:=H.ex;have g:=N W (m.sub (λk n=>by simp[n])) s;have o:=R W (m.sub (λk n=>by simp[n])) s;have f1:∀d w,(callFunc I d).run prog w= .ok (.enter I d) w:=e1;have f2:∀d w,(callFunc J d).run prog w= .ok (.enter J d) w:=e2;show Calls prog 305 #[gH s,gJ h,gJ l] W _;cases hps:p s with
  |true=>
   rw[hps]at g;generalize q s=r at o|-;go_enter func305,ntmps305
   go_wp21
   refine g.mono ?_;rintro e w' ⟨rfl,rfl⟩
   go_wp21
   refine o.mono ?_;rintro e w' ⟨rfl,rfl⟩;go_wp2;go_ret;simp
  |false=>
   rw[hps]at g;go_enter func305,ntmps305
   go_wp21
   refine g.mono ?_;rintro e w' ⟨rfl,rfl⟩;go_wp2;go_ret;simp
 .simp at f;rcases f with rfl|rfl|f|f
  .grind
  .grind
  .exact D.lt e f
  .exact H.lt e f
def abl (f:Nat) (l:List Nat) (v1:gO) (p:gy->Bool) (w:gv) (A:w.heap[f]?=some (gI #[v1] 150)) (n:nQ l v1 p w):
  nQ (f::l) (.func (.func 280) #[] #[gJ f]) (λs=>!p s) w:=by
 refine⟨⟨_,_,rfl,enters_of func280 (by rfl) rfl,λW m s=>?_⟩,λe g=>?_⟩
 .have y:=fW (nY m (by simp) A) 0;dsimp at y;obtain⟨o,H,rfl,e1,q⟩:=n.ex;have h:=q W (m.sub (λk D=>by simp[D])) s;have I:∀d w,(callFunc o d).run prog w= .ok (.enter o d) w:=e1;show Calls prog 280 #[gH s,gJ f] W _;generalize p s=r at h|-;go_enter func280,ntmps280
  go_wp21
  refine h.mono ?_;rintro e w' ⟨rfl,rfl⟩;go_wp2;go_ret;simp
 .simp at g;rcases g with rfl|g
  .grind
  .exact n.lt e g
def abw (f g:List Nat) (v1 v2:gO) (p q:gy->Bool) (w:gv) (m:nQ f v1 p w) (n:nQ g v2 q w):
  Calls prog 226 #[v1,v2] w λe w'=>(∃v,e=iq v/\nQ (w.heap.size::(w.heap.size+1)::(f++g)) v (λs=>p s||q s) w'/\w'.heap[w.heap.size]?=some (gI #[v1] 150)/\w'.heap[w.heap.size+1]?=some (gI #[v2] 150))/\Kept [] w w':=by
 have h:Calls prog 226 #[v1,v2] w λe w'=>e=iq (.func (.func 281) #[] #[gJ w.heap.size,gJ (w.heap.size+1)])/\w'=(w.alloc (gI #[v1] 150)).alloc (gI #[v2] 150):=by
  obtain⟨o,r,rfl,_,_⟩:=m.ex;obtain⟨d,y,rfl,_,_⟩:=n.ex;go_enter func226,ntmps226;go_wp2;go_ret;exact⟨by simp,rfl⟩
 refine h.mono ?_;rintro e w' ⟨rfl,rfl⟩;have o:Kept [] w (w.alloc (gI #[v1] 150)):=(Kept.refl _ _).alloc _;have d:=o.alloc (gI #[v2] 150);have l:=fY (w.alloc (gI #[v1] 150)) (gI #[v2] 150);rw[rB]at l;exact⟨⟨_,rfl,adX _ _ f g v1 v2 p q _ ((Below.heap_alloc _ _ _ (by simp)).trans (fY w _)) l (m.il d) (n.il d),(Below.heap_alloc _ _ _ (by simp)).trans (fY w _),l⟩,d⟩
def X0 (f g:List Nat) (v1 v2:gO) (p q:gy->Bool) (w:gv) (m:nQ f v1 p w) (n:nQ g v2 q w):
  Calls prog 262 #[v1,v2] w λe w'=>(∃v,e=iq v/\nQ (w.heap.size::(w.heap.size+1)::(f++g)) v (λs=>p s&&!q s) w'/\w'.heap[w.heap.size]?=some (gI #[v1] 150)/\w'.heap[w.heap.size+1]?=some (gI #[v2] 150))/\Kept [] w w':=by
 have h:Calls prog 262 #[v1,v2] w λe w'=>e=iq (.func (.func 305) #[] #[gJ w.heap.size,gJ (w.heap.size+1)])/\w'=(w.alloc (gI #[v1] 150)).alloc (gI #[v2] 150):=by
  obtain⟨o,r,rfl,_,_⟩:=m.ex;obtain⟨d,y,rfl,_,_⟩:=n.ex;go_enter func262,ntmps262;go_wp2;go_ret;exact⟨by simp,rfl⟩
 refine h.mono ?_;rintro e w' ⟨rfl,rfl⟩;have o:Kept [] w (w.alloc (gI #[v1] 150)):=(Kept.refl _ _).alloc _;have d:=o.alloc (gI #[v2] 150);have l:=fY (w.alloc (gI #[v1] 150)) (gI #[v2] 150);rw[rB]at l;exact⟨⟨_,rfl,aaz _ _ f g v1 v2 p q _ ((Below.heap_alloc _ _ _ (by simp)).trans (fY w _)) l (m.il d) (n.il d),(Below.heap_alloc _ _ _ (by simp)).trans (fY w _),l⟩,d⟩
def Zc (d:List Nat) (v1:gO) (p:gy->Bool) (w:gv) (g:nQ d v1 p w):
  Calls prog 225 #[v1] w λe w'=>(∃v,e=iq v/\nQ (w.heap.size::d) v (λs=>!p s) w'/\w'.heap[w.heap.size]?=some (gI #[v1] 150))/\Kept [] w w':=by
 have h:Calls prog 225 #[v1] w λe w'=>e=iq (.func (.func 280) #[] #[gJ w.heap.size])/\w'=w.alloc (gI #[v1] 150):=by
  obtain⟨f,l,rfl,_,_⟩:=g.ex;go_enter func225,ntmps225;go_wp2;go_ret;exact⟨rfl,rfl⟩
 refine h.mono ?_;rintro e w' ⟨rfl,rfl⟩;have f:Kept [] w (w.alloc (gI #[v1] 150)):=(Kept.refl _ _).alloc _;exact⟨⟨_,rfl,abl _ d v1 p _ (fY w _) (g.il f),fY w _⟩,f⟩
open Go.ChangeMaps (setBlock)
def TY (a b:gy):(a==b)=kC a b:=by
 have h:(a==b)=(a.data==b.data):=rfl;rw[h]
 by_cases e:a=b
 .grind[kC]
 .rw[Yr.2 e];have:a.data≠b.data:=λd=>e (by cases a;simp_all)
  grind
def kvE (e:MapEntry):gO×gO:=(e.key,e.val)
def kvP (p:gy×gO):gO×gO:=(gH p.1,p.2)
def Yw:List (gy×gO)->gy->Nat->Option (Nat×gO)
 |[],_,_=>none
 |p::L,k,i=>if kC k p.1 then some (i,p.2)else Yw L k (i+1)
def zP:List (gy×gO)->gy->Option gO
 |[],_=>none
 |p::L,k=>if kC k p.1 then some p.2 else zP L k
def Cn:List (gy×gO)->gy->gO->List (gy×gO)
 |[],k,v=>[(k,v)]
 |p::L,k,v=>if kC k p.1 then (k,v)::L else p::Cn L k v
def Pz:∀(L:List (gy×gO)) (k:gy) (i:Nat),(Yw L k i).map (·.2)=zP L k
 |[],_,_=>rfl
 |p::L,k,i=>by
  unfold Yw zP;split
  .rfl
  .exact Pz L k (i+1)
def PA:∀(L:List (gy×gO)) (k:gy) (i:Nat) (v:gO),Yw L k i=none->Cn L k v=L++[(k,v)]
 |[],_,_,_,_=>rfl
 |p::L,k,i,v,h=>by
  unfold Yw at h;split at h
  .cases h
  .rename_i d;unfold Cn;rw[gQ d,PA L k (i+1) v h];rfl
def PB:∀(L:List (gy×gO)) (k:gy) (i j:Nat) (u v:gO),Yw L k i=some (j,u)->∃n,j=i+n/\n < L.length/\(L[n]?).map (·.1)=some k/\Cn L k v=L.set n (k,v)
 |[],_,_,_,_,_,h=>by cases h
 |p::L,k,i,j,u,v,h=>by
  unfold Yw at h;split at h
  .rename_i d;cases h;refine⟨0,rfl,by simp,?_,?_⟩
   .simp[(xg.1 d)]
   grind[Cn]
  .rename_i d;have⟨n,e1,e2,e3,e4⟩:=PB L k (i+1) j u v h;refine⟨n+1,by omega,by grind,by grind,?_⟩
   grind[Cn]
def Np (k:gy):∀(d:List MapEntry) (L:List (gy×gO)) (i:Nat),d.map kvE=L.map kvP->Instr.findNow .string (gH k) d i=some (Yw L k i)
 |[],[],_,_=>rfl
 |[],_::_,_,h=>by simp at h
 |_::_,[],_,h=>by simp at h
 |e::d,p::L,i,h=>by
  simp only[yC,RL]at h;have f:e.key=gH p.1:=sK Prod.fst h.1;have g:e.val=p.2:=sK Prod.snd h.1;unfold Instr.findNow Yw;simp only[f,Instr.sameNow,TY];cases hf:kC k p.1
  .exact Np k d L (i+1) h.2
  grind
def sM (w:gv) (b:Nat) (L:List (gy×gO)):Prop:=∃f d,w.heap[b]?=some (.map f d)/\f.toList.map kvE=L.map kvP
def sM.keeps (h:sM w b L) (e:w'.heap[b]?=w.heap[b]?):sM w' b L:=by
 grind[sM]
def sM.lt (h:sM w b L):b < w.heap.size:=by
 have⟨es,clock,ha,_⟩:=h
 grind
def sM.kept (h:sM w b L) (f:Kept S w w') (d:b∉S):sM w' b L:=h.keeps (f.block b h.lt d)
def sM.new (w:gv):sM (w.alloc (.map #[] 0)) w.heap.size []:=⟨#[],0,fY w _,rfl⟩
def Al (h:Kept S a w) (g:b∈S\/a.heap.size<=b) (o:Obj):Kept S a (setBlock w b o):=
 ⟨h.os,h.tape,h.output,by show a.heap.size<=(w.heap.setIfInBounds b o).size;rw[RM];exact h.size,λk d f=>by
  show(w.heap.setIfInBounds b o)[k]?=_;rw[Eo (by grind)];exact h.block k d f⟩
def Ea (h:b < w.heap.size) (o:Obj):(setBlock w b o).heap[b]?=some o:=by
 show(w.heap.setIfInBounds b o)[b]?=_
 grind
def Fh {E : TypeId} {z : gO} (g:prog.underlying T=some (.map 9 E)) (n:∀w,(zeroValue E).run prog w= .ok z w) (h:sM w b L) (k:gy):
  (Instr.lookup T (.map (some b)) (gH k) false).run prog w= .ok ((zP L k).getD z) w:=by
 have⟨es,clock,ha,hl⟩:=h;have m:(underlying 9).run prog w= .ok .string w:=pO underlying9 _;have l:∀x,(Instr.checkKey x 10000 9 (gH k)).run prog w= .ok () w:=λx=>by
  unfold Instr.checkKey;simp
 have d:=Np k es.toList L 0 hl;have f:=Pz L k 0;cases hq:Yw L k 0 with
 |none=>
  rw[hq]at d f;rw[<-f];simp[Instr.lookup,pO g,Kt ha,l,Instr.findKey,m,d,n,Result.andThen]
 |some p=>
  rw[hq]at d f;rw[<-f];simp[Instr.lookup,pO g,Kt ha,l,Instr.findKey,m,d,Result.andThen]
def QV {E : TypeId} (q:prog.underlying T=some (.map 9 E)) (h:sM w b L) (k:gy) (v:gO):
  ∃w',(Instr.mapUpdate T (.map (some b)) (gH k) v).run prog w= .ok () w'/\sM w' b (Cn L k v)/\Kept [b] w w'/\w'.heap.size=w.heap.size:=by
 have f:=h.lt;have⟨es,clock,ha,hl⟩:=h;have y:(underlying 9).run prog w= .ok .string w:=pO underlying9 _;have r:∀x,(Instr.checkKey x 10000 9 (gH k)).run prog w= .ok () w:=λx=>by
  unfold Instr.checkKey;simp
 have g:=Np k es.toList L 0 hl;cases hq:Yw L k 0 with
 |none=>
  rw[hq]at g;refine⟨setBlock w b (.map (es.push {key:=gH k,val:=v,born:=clock}) (clock+1)),?_,⟨_,_,Ea f _,?_⟩,Al (Kept.refl _ _) (.inl (by simp)) _,?_⟩
  .simp[Instr.mapUpdate,pO q,Kt ha,r,Instr.findKey,y,g,setObj,Sem.run,ha,setBlock,Result.andThen]
  .rw[PA L k 0 v hq];simp[hl,kvE,kvP]
  .show(w.heap.setIfInBounds b _).size=_;simp
 |some p=>
  have⟨j,u⟩:=p;rw[hq]at g;have⟨n,hj,hn,hkey,hput⟩:=PB L k 0 j u v hq;have m:j=n:=by omega
  subst m;have s:es.size=L.length:=by have:=sK List.length hl;simpa using this
  have l:(es[j]?).map (·.key)=some (gH k):=by
   have d:(es.toList.map kvE)[j]?=(L.map kvP)[j]?:=by rw[hl]
   rw[U5,U5]at d;rw[U6]at d;rw[ry hn]at hkey d;rw[wL (by omega)]at d|-;simp[kvE,kvP]at d hkey|-;rw[d.1,hkey]
  refine⟨setBlock w b (.map (es.modify j λe=>{e with key:=gH k,val:=v}) clock),?_,⟨_,_,Ea f _,?_⟩,Al (Kept.refl _ _) (.inl (by simp)) _,?_⟩
  .have A:(Instr.keyThatStays (((es[j]?).map (·.key)).getD (gH k)) (gH k)).run prog w= .ok (gH k) w:=by
    rw[l];have o:(k==k)=true:=by rw[TY];exact xg.2 rfl
    simp[Instr.keyThatStays,Instr.sameBits,o]
   simp[Instr.mapUpdate,pO q,Kt ha,r,Instr.findKey,y,g,A,setObj,Sem.run,ha,setBlock,Result.andThen]
  .rw[hput];apply List.ext_getElem?;intro i;have d:(es.toList.map kvE)[i]?=(L.map kvP)[i]?:=by rw[hl]
   grind[kvE,kvP]
  .show(w.heap.setIfInBounds b _).size=_;simp
section
variable {P:Program} {ops:Array Oper} {Q:Exit->Act->gv->Prop} {md:Region.Mode}
def Bh {I:Array Bool->Act->gv->Prop}
  (m:∀d a w i,I d a w->i∈Region.ready md ops d->wpOp P ops Q i (I (d.setIfInBounds i true)) a w)
  (g:∀d a w,I d a w->Region.ready md ops d=[]->Q .normal a w):
  ∀f d a w,((List.range ops.size).filter (λi=>!d.getD i true)).length<=f->I d a w->wpAny P md ops Q f d a w:=by
 intro f
 induction f with
 |zero=>
  intro d a w R q;have r:(List.range ops.size).filter (λi=>!d.getD i true)=[]:=Xn (by omega);have A:Region.ready md ops d=[]:=by
   unfold Region.ready;rw[U7]at r|-;intro i l s;apply r i l;rw[rS]at s;exact s.1
  exact⟨A,g _ _ _ q A⟩
 |succ n ih=>
  intro d a w R q;refine⟨g _ _ _ q,λi l=>wpOp_mono (λD w' H=>ih _ D w' ?_ H) (m _ _ _ i q l)⟩;have o:i∈(List.range ops.size).filter (λi=>!d.getD i true):=by
   unfold Region.ready at l;rw[MH,rS]at l;exact List.mem_filter.2 ⟨l.1,l.2.1⟩
  have y:d.getD i true=false:=by
   have:=(List.mem_filter.1 o).2
   simpa using this
  have N:i < d.size:=by
   apply Decidable.byContradiction;intro h;rw[RO,BO (by omega)]at y;simp at y
  have e:(List.range ops.size).filter (λj=>!(d.setIfInBounds i true).getD j true)=((List.range ops.size).filter (λj=>!d.getD j true)).filter (λj=>j != i):=by
   rw[List.filter_filter];refine List.filter_congr λj _=>?_
   by_cases J:j=i
   .simp_all
   .have:i≠j:=λh=>J h.symm
    simp_all
  rw[e];have:(((List.range ops.size).filter (λj=>!d.getD j true)).filter (λj=>j != i)).length < ((List.range ops.size).filter (λj=>!d.getD j true)).length:=by
   rw[List.length_filter_lt_length_iff_exists];exact⟨i,o,by simp⟩
  omega
end
def dn (z:Array Bool) (k:Nat):Bool:=z.getD k true
def cd (z:Array Bool) (k:Nat) (v:gO):gO:=cond (dn z k) v undef
def ve (md:Region.Mode) (ops:Array Oper) (i:Nat):List Nat:=
 match ops[i]? with|some o=>(o.after.toList.filter (Region.binds md)).map (·.on)|none=>[]
def rT:dn (z.setIfInBounds k true) k=true:=by
 simp[dn]
def oE (h:k≠j):dn (z.setIfInBounds k true) j=dn z j:=getD_set_ne true h
def pY {p : Prop} (h:dn z j=true->p) (d:k≠j):dn (z.setIfInBounds k true) j=true->p:=by
 rw[oE d];exact h
def ld (h:dn z k=true):cd z k v=v:=by unfold cd;grind
def acy (h:dn z k=false):cd z k v=undef:=by unfold cd;grind
def oB:cd (z.setIfInBounds k true) k v=v:=ld rT
def vo (h:k≠j):cd (z.setIfInBounds k true) j v=cd z j v:=by
 unfold cd;rw[oE h]
def ce (z:Array Bool) (k:Nat) (u v:gO):gO:=cond (dn z k) v u
def X7 (h:dn z k=true):ce z k u v=v:=by unfold ce;grind
def T6:ce (z.setIfInBounds k true) k u v=v:=X7 rT
def acz (h:k≠j):ce (z.setIfInBounds k true) j u v=ce z j u v:=by
 unfold ce;rw[oE h]
def xz {n : Nat}:dn (Array.replicate n true) k=true:=by
 unfold dn;rw[RO,Array.getElem?_replicate];grind
def vc {n : Nat}:cd (Array.replicate n true) k v=v:=ld xz
def X4 {n : Nat}:ce (Array.replicate n true) k u v=v:=X7 xz
def mV {p : Nat->Prop}:∀k < 0,p k:=λ_ h=>absurd h (Nat.not_lt_zero _)
def mU {p : Nat->Prop} {n : Nat} (t:∀k < n,p k) (h:p n):∀k < n+1,p k:=λk d=>by
 grind
def BV (z:Array Bool) (i:Nat):List Nat->Prop
 |[]=>dn z i=false
 |j::l=>dn z j=true/\BV z i l
def TU (h:z.getD i true=false):∀{l:List Nat},(∀j∈l,z.getD j true=true)->BV z i l
 |[],_=>h
 |j::l,hl=>⟨hl j (pP ..),TU h λk d=>hl k (oW _ d)⟩
def yN (md:Region.Mode) (ops:Array Oper):List (List Nat):=(List.range ops.size).map (ve md ops)
def Y4:Nat->List (List Nat)->Bool
 |_,[]=>true
 |i,l::ls=>l.all (· < i)&&Y4 (i+1) ls
def Ut:∀{d:List (List Nat)} {i k:Nat} {l:List Nat},Y4 i d=true->d[k]?=some l->∀j∈l,j < i+k
 |l'::d,i,0,l,h,hk,j,hj=>by
  simp at hk;subst hk;simp[Y4]at h;grind
 |l'::d,i,k+1,l,h,hk,j,hj=>by
  simp[Y4]at h;have:=Ut (i:=i+1) (k:=k) h.2 (by grind) j hj;omega
def aaG:List (List Nat)->List (List Nat)->List (List Nat)
 |acc,[]=>acc
 |acc,l::ls=>aaG (acc++[(l++l.flatMap λj=>acc.getD j []).eraseDups]) ls
def FR:∀(g d:List (List Nat)),(∀k,dn z k=true->∀j∈d.getD k [],dn z j=true)->
  (∀k l,g[k]?=some l->dn z (d.length+k)=true->∀j∈l,dn z j=true)->∀k,dn z k=true->∀j∈(aaG d g).getD k [],dn z j=true
 |[],d,h,_=>h
 |l::g,d,h,hl=>by
  refine FR g _ ?_ ?_
  .intro k m j f;rw[xv]at f
   by_cases o:k < d.length
   .rw[U8 o]at f;exact h k m j (by grind)
   .by_cases q:k=d.length
    .subst q;simp at f;have n:=hl 0 l rfl m;rcases f with f|⟨i,r,f⟩
     .grind
     .exact h i (n i r) j (by grind)
    grind
  .intro k s m y j f;refine hl (k+1) s (by grind) ?_ j f
   grind
def O5:∀(g d:List (List Nat)),(∀k,∀j∈d.getD k [],j < k)->(∀k l,g[k]?=some l->∀j∈l,j < d.length+k)->∀k,∀j∈(aaG d g).getD k [],j < k
 |[],d,h,_=>h
 |l::g,d,h,hl=>by
  refine O5 g _ ?_ ?_
  .intro k j f;rw[xv]at f
   by_cases q:k < d.length
   .grind
   .by_cases m:k=d.length
    .subst m;simp at f;have o:=hl 0 l rfl;rcases f with f|⟨i,r,f⟩
     .grind
     .have:=h i j (by grind)
      grind
    grind
  .intro k n s j f;have:=hl (k+1) n (by grind) j f
   grind
def okT (n:Nat) (md:Region.Mode) (ops:Array Oper) (d:List (List Nat)):Bool:=
 d.length==ops.size&&n==ops.size&&Y4 0 (yN md ops)&&(List.range ops.size).all λi=>(d.getD i []).all λj=>((aaG [] (yN md ops)).getD i []).contains j
section
variable {P:Program} {ops:Array Oper} {Q:Exit->Act->gv->Prop} {md:Region.Mode} {G:Type}
def pN (Z:G->Array Bool->Act) (I:G->Array Bool->gv->Prop) (n:Nat) (q:List (List Nat)) {a:Act} {w:gv} (g:G)
  (D:okT n md ops q=true) (ha:a=Z g (Array.replicate n false)) (h0:I g (Array.replicate n false) w)
  (hs:∀i < n,∀g z W,I g z W->BV z i (q.getD i [])->(∀j,i∈q.getD j []->dn z j=false)->
   wpOp P ops Q i (λa W'=>∃g,a=Z g (z.setIfInBounds i true)/\I g (z.setIfInBounds i true) W') (Z g z) W)
  (V:∀g W,I g (Array.replicate n true) W->Q .normal (Z g (Array.replicate n true)) W):
  wpAny P md ops Q ops.size (Array.replicate ops.size false) a w:=by
 subst ha;simp only[okT,rS,beq_iff_eq,RP,Ku]at D;have⟨⟨⟨hnd,hn⟩,hl0⟩,hsub⟩:=D;have J:∀i < ops.size,∀j∈ve md ops i,j < i:=by
  intro i H j d;have:=Ut (i:=0) (k:=i) (l:=ve md ops i) hl0 (by simp[yN,H]) j d;omega
 rw[hn]at h0 hs V|-;have a2:∀i < ops.size,∀j∈q.getD i [],j < i:=by
  intro i H j d;have R:=hsub i H j d;refine O5 (yN md ops) [] (by simp) (λk l m=>?_) i j (by simpa using R);have s:k < ops.size:=by simpa [yN]using (List.getElem?_eq_some_iff.1 m).1
  have:l=ve md ops k:=by simpa [yN,s]using m.symm
  subst this
  simpa using J k s
 have A:∀z:Array Bool,(∀j,dn z j=true->∀k∈ve md ops j,dn z k=true)->∀i < ops.size,dn z i=true->∀j∈q.getD i [],dn z j=true:=by
  intro z N i H V j d;refine FR (yN md ops) [] (by simp) ?_ i V j (by grind);intro k l m V j d;have s:k < ops.size:=by simpa [yN]using (List.getElem?_eq_some_iff.1 m).1
  have:l=ve md ops k:=by simpa [yN,s]using m.symm
  subst this;exact N k (by simpa using V) j d
 have a0:∀z:Array Bool,z.size=ops.size->∀i,i∈Region.ready md ops z->z.getD i true=false/\i < ops.size/\∀j∈ve md ops i,z.getD j true=true:=by
  intro z N i H;have⟨a,o,ho,r⟩:=mem_ready.1 H;refine⟨a,(Array.getElem?_eq_some_iff.1 ho).1,λj d=>?_⟩;simp only[ve,ho,List.mem_map,MH]at d;obtain⟨e,⟨he,hb⟩,rfl⟩:=d;have R:=r e (by simpa using he) hb;rw[RO]at R|-;cases hx:z[e.on]? with
  |none=>rfl
  |some b=>grind
 refine Bh (I:=λz a W=>(z.size=ops.size/\∀j,dn z j=true->∀k∈ve md ops j,dn z k=true)/\∃g,a=Z g z/\I g z W) ?_ ?_ _ _ _ _ ?_ ⟨⟨by simp,λj d k m=>?_⟩,g,rfl,h0⟩
 .rintro z a W i ⟨⟨N,U⟩,g,rfl,hI⟩ H;have⟨a,b,c⟩:=a0 z N i H;have y:∀j,dn (z.setIfInBounds i true) j=true->∀k∈ve md ops j,dn (z.setIfInBounds i true) k=true:=by
   intro j d k m;have:dn z k=true:=by
    by_cases X:i=j
    .subst X;exact c k m
    .rw[oE X]at d;exact U j d k m
   by_cases Y:i=k
   .subst Y;exact rT
   .rw[oE Y];omega
  refine wpOp_mono (λa' W' h=>⟨⟨by simpa using N,λj d k m=>?_⟩,h⟩) (hs i b g z W hI (TU a λj d=>?_) λj d=>?_)
  .exact y j d k m
  .have hl:=a2 i b j d;have:=A _ y i b rT j d
   rwa [oE (by omega)]at this
  .rw[<-Bool.not_eq_true];intro a1
   by_cases f:j < ops.size
   .have:=A z U j f a1 i d;rw[show dn z i=false from a]at this;cases this
   grind
 .rintro z a W ⟨⟨N,_⟩,g,rfl,hI⟩ hr;have r:∀i,∀j≤i,z.getD j true=true:=by
   intro i
   induction i with
   |zero=>?_
   |succ i ih=>?_
   all_goals
    intro j d;rw[<-Bool.not_eq_false];intro hf;have f:j < ops.size:=by
     rw[<-N];apply Decidable.byContradiction;intro h;rw[RO,BO (by omega)]at hf;simp at hf
    have:j∈Region.ready md ops z:=by
     refine mem_ready.2 ⟨hf,ops[j],by simp,λe he hb=>?_⟩;have hl:=J j f e.on (by simp only[ve,wL f,List.mem_map,MH];grind)
     first
     |omega
     |grind
    grind
  have a3:z=Array.replicate ops.size true:=by
   apply Array.ext
   .simpa using N
   .intro i R h2;have:=r i i (ig _);rw[RO,wL R]at this
    simpa using this
  grind
 .grind
 .by_cases f:j < ops.size
  .simp[dn,f]at d
  .simp[ve,BO (Nat.le_of_not_lt f)]at m
end
inductive Nd
 |el (k:Nat)
 |tx (k:Nat)
 |cm (k:Nat)
 |dt (k:Nat)
def Nd.val:Nd->gO
 | .el k=> .iface 57 (gJ k)
 | .tx k=> .iface 257 (gJ k)
 | .cm k=> .iface 216 (gJ k)
 | .dt k=> .iface 220 (gJ k)
def Nd.one (n:Nd):n.val.oneCell'=true:=by cases n<;>rfl
def Ux (ns:List Nd):∀x∈ns.map Nd.val,x.oneCell'=true:=by
 intro u d;obtain⟨x,_,rfl⟩:=List.mem_map.1 d;exact x.one
structure El (base:Nat) (w:gv) (k:Nat) (name:gy) (av:gO) (je:jg) (kv:gO) (ns:List Nd):Prop where
 ir:w.heap[k]?=some (gI #[gH name,av,kh je,kv] 142)
 row:w.ownsRow base 183 1 kv ns.length (ns.map Nd.val)
 le:ns.length<=1048576
 TW:∃ao n c,av= .slice ao n c
def El.nr {ns:List Nd} (h:El base w k name av je kv ns) (l:w.heap[b]?=some (gI c t)) (n:t≠183):kv.ownBlock≠some b:=by
 intro d;rcases h.row.2 with⟨e,_⟩|⟨g,cap,f,e,_,m,_⟩
 .rw[e]at d;cases d
 .rw[e]at d;obtain rfl:=jL d
  grind
def El.kept {ns:List Nd} (h:El base w k name av je kv ns) (d:Kept S w w') (f:k∉S) (l:∀g,kv.ownBlock=some g->g∉S):El base w' k name av je kv ns:=
 ⟨d.at h.ir f,d.ownsRow h.row l,h.le,h.TW⟩
abbrev place (k n:Nat):gO:= .agg #[gJ k,gn n]
def adt (base k:Nat) (name:gy) (av kv:gO) (je:jg) (ns:List Nd) (w:gv) (h:El base w k name av je kv ns):
  Calls prog 81 #[gJ k] w λe w'=>e=iq (place k ns.length)/\Kept [] w w':=by
 obtain⟨ao,cap,rfl⟩:=gG h.row;have f:=fW h.ir 3;dsimp at f;have g:=jk h.ir;have d:=(Kept.refl [] w).alloc (gI #[gJ k,gn ns.length] 214);go_enter func81,ntmps81;go_wp2;refine qf (v:=place k ns.length) ?_ rfl ⟨rfl,d⟩;simp[results,results81,asAddr,Result.andThen,go_sem]
def Hs (base k:Nat) (name:gy) (av kv:gO) (je:jg) (ns:List Nd) (w:gv) (h:El base w k name av je kv ns):
  Calls prog 257 #[gJ k] w λe w'=>e=iq (gJ w.heap.size)/\El base w' w.heap.size name av none (jX) []/\Kept [] w w':=by
 have n:w.drew.cell? ⟨k,0,none⟩=some (gH name):=by show w.cell? _=_;rw[fW h.ir];rfl
 have o:w.drew.cell? ⟨k,1,none⟩=some av:=by show w.cell? _=_;rw[fW h.ir];rfl
 have f:=(Kept.refl [] w).drew.alloc (gI #[gH name,av,.pointer none,jX] 142);have d:=(show El base (w.drew.alloc (gI #[gH name,av,.pointer none,jX] 142)) w.heap.size name av none (jX) []from⟨fY w.drew _,oX _ _ _ _,by simp,h.TW⟩);obtain⟨g,m,l,rfl⟩:=h.TW;go_enter func257,ntmps257
 go_wp21
 go_region;go_wp2;go_ret;exact⟨rfl,d,f⟩
def El.UL {d : gO} {ns f:List Nd} (h:El base w k name av je kv ns) (q:w'.heap[k]?=w.heap[k]?) (n:w'.ownsRow base 183 1 d f.length (f.map Nd.val)) (r:f.length<=1048576):El base (w'.setCell ⟨k,3,none⟩ d) k name av je d f:=by
 have m:=q.trans h.ir;refine⟨gg m 3 d,yB (a:=⟨k,3,none⟩) n ?_ _,r,h.TW⟩;intro l;rcases n.2 with⟨e,_⟩|⟨g,cap,o,e,_,s,_⟩
 .rw[e]at l;cases l
 .rw[e]at l;obtain rfl:=jL l
  grind
def El.ZF {ns:List Nd} (h:El base w k name av je kv ns) (p:jg):El base (w.setCell ⟨k,2,none⟩ (kh p)) k name av p kv ns:=
 ⟨gg h.ir 2 (kh p),yB (a:=⟨k,2,none⟩) h.row (h.nr h.ir (by decide)) _,h.le,h.TW⟩
def kU {a : Addr} (h:b≠a.block):(w.setCell a u).cell? ⟨b,j,none⟩=w.cell? ⟨b,j,none⟩:=Z1 (Below.heap_setCell w a u b h)
def US {X e : TypeId} (d:prog.underlying X=some (.pointer e)) (v:gO) (f:TypeId) (w:gv):(Instr.typeAssert (.iface X v) f X true).run prog w= .ok (.tuple #[v,.bool true]) w:=by
 simp[Instr.typeAssert,pO d]
def Fo {X e : TypeId} (g:prog.underlying X=some (.pointer e)) (f:(prog.info? X).bind (·.zero)=some (.pointer none)) (d:T≠X) (v:gO) (h:TypeId) (w:gv):(Instr.typeAssert (.iface T v) h X true).run prog w= .ok (.tuple #[.pointer none,.bool false]) w:=by
 have⟨i,hi,f⟩:=Option.bind_eq_some_iff.1 f;simp[Instr.typeAssert,pO g,d,zeroValue,typeInfo,hi,f]
structure Xx (base k:Nat) (name:gy) (av kv:gO) (je:jg) (ns:List Nd) (w w':gv):Prop where
 ex:∃kv',El base w' k name av je kv' ns/\(kv'.ownBlock=kv.ownBlock\/∀g,kv'.ownBlock=some g->w.heap.size<=g)
 kept:Kept (k::kv.ownBlock.toList) w w'
def OP (base k n:Nat) (name:gy) (av:gO) (je:jg) (ao:Option Addr) (cap:Nat) (ns:List Nd) (x:Nd) (q:TypeId) (o:gO) (w w1:gv) (h l m:Bool) (d:gO) (W:gv):Prop:=
 if m then Xx base k name av (.slice ao ns.length cap) je (ns.take n++[x]++ns.drop n) w W/\W.heap[w.heap.size]?=some (gI #[gJ k,gn n] 214)
 else if l then W.ownsRow base 183 1 d (ns.length+1) ((ns.map Nd.val).take n++[.iface q o]++(ns.map Nd.val).drop n)/\Kept (Value.slice ao ns.length cap).ownBlock.toList w1 W/\(d.ownBlock=(Value.slice ao ns.length cap).ownBlock\/∀g,d.ownBlock=some g->w1.heap.size+1<=g)
 else if h then ∃f,Kept [] w1 f/\f.heap.size=w1.heap.size/\W=f.alloc (gI #[.iface q o] 183)
 else Kept [] w1 W/\W.heap.size=w1.heap.size
def OP.ir {n : Nat} {ns:List Nd} {x:Nd} {s : TypeId} {r : gO} {d f g : Bool} {m : gO} (h:OP base k n name av je ao cap ns x s r w w1 d f g m W) (l:w1.heap[w.heap.size]?=some (gI #[gJ k,gn n] 214)) (o:w.heap.size∉(Value.slice ao ns.length cap).ownBlock.toList):W.heap[w.heap.size]?=some (gI #[gJ k,gn n] 214):=by
 unfold OP at h;split at h
 .exact h.2
 split at h
 .exact h.2.1.at l o
 split at h
 .obtain⟨y,q,_,rfl⟩:=h;exact(q.alloc _).at l (by simp)
 .exact h.1.at l (by simp)
def OP.old {n : Nat} {ns:List Nd} {x:Nd} {m : TypeId} {l : gO} {d : Bool} {f : gO} (h:OP base k n name av je ao cap ns x m l w w1 d false false f W):Kept [] w1 W:=by
 unfold OP at h;simp only[wR,↓reduceIte]at h;split at h
 .obtain⟨o,g,_,rfl⟩:=h;exact g.alloc _
 grind
def abK {n : Nat} {ns:List Nd} {v' : gO} {f d : gv} (o:Kept [] w1 f) (r:f.heap.size=w1.heap.size) (m:W=f.alloc (gI #[u] 183)) (l:d.ownsRow base 183 1 v' (ns.length+1) ((ns.map Nd.val).take n++[u]++(ns.map Nd.val).drop n)) (h:Kept (Value.slice ao ns.length cap).ownBlock.toList W d) (q:v'.ownBlock=(Value.slice ao ns.length cap).ownBlock\/∀k,v'.ownBlock=some k->W.heap.size<=k):
  d.ownsRow base 183 1 v' (ns.length+1) ((ns.map Nd.val).take n++[u]++(ns.map Nd.val).drop n)/\Kept (Value.slice ao ns.length cap).ownBlock.toList w1 d/\(v'.ownBlock=(Value.slice ao ns.length cap).ownBlock\/∀g,v'.ownBlock=some g->w1.heap.size+1<=g):=by
 subst m;refine⟨l,((o.alloc _).mono (by simp)).trans h,?_⟩
 simp_all
def abJ {n : Nat} {f : Option Addr} {d : Nat} {ns:List Nd} {x:Nd} (h:El base w1 k name av je (.slice ao ns.length cap) ns) (J:Kept [] w w1) (X:w1.heap.size=w.heap.size+1) (H:w1.heap[w.heap.size]?=some (gI #[gJ k,gn n] 214)) (q:k∉(Value.slice ao ns.length cap).ownBlock.toList) (o:w.heap.size∉(Value.slice ao ns.length cap).ownBlock.toList) (U:n<=ns.length) (R:ns.length < 1048576) (m:w.heap.size≠k) (r:x.val=u)
  (V:W.ownsRow base 183 1 (.slice f (ns.length+1) d) (ns.length+1) ((ns.map Nd.val).take n++[u]++(ns.map Nd.val).drop n)) (l:Kept (Value.slice ao ns.length cap).ownBlock.toList w1 W) (N:(Value.slice f (ns.length+1) d).ownBlock=(Value.slice ao ns.length cap).ownBlock\/∀g,(Value.slice f (ns.length+1) d).ownBlock=some g->w1.heap.size+1<=g):
  Xx base k name av (.slice ao ns.length cap) je (ns.take n++[x]++ns.drop n) w (W.setCell ⟨k,3,none⟩ (.slice f (ns.length+1) d))/\(W.setCell ⟨k,3,none⟩ (.slice f (ns.length+1) d)).heap[w.heap.size]?=some (gI #[gJ k,gn n] 214):=by
 have s:(ns.take n++[x]++ns.drop n).length=ns.length+1:=by simp;omega
 have A:(ns.take n++[x]++ns.drop n).map Nd.val=(ns.map Nd.val).take n++[u]++(ns.map Nd.val).drop n:=by simp[r]
 have e2:=l.at h.ir q;have D:=l.at H o;refine⟨⟨⟨.slice f (ns.length+1) d,h.UL (e2.trans h.ir.symm) (by grind) (by omega),?_⟩,?_⟩,?_⟩
 .grind
 .exact((J.mono (S':=k::(Value.slice ao ns.length cap).ownBlock.toList) (by simp)).next l (λy I=> .inl (oW _ I))).setCell (p:=⟨k,3,none⟩) (.inl (by simp)) _
 .rw[Below.heap_setCell W ⟨k,3,none⟩ _ _ m];exact D
def UB (base k n:Nat) (name:gy) (av kv:gO) (je:jg) (ns:List Nd) (x:Nd) (w:gv) (h:El base w k name av je kv ns) (Y:n<=ns.length) (hl:ns.length < 1048576) (hb:base<=w.heap.size) (Z:gv->Prop)
  (hZ:∀wc,Xx base k name av kv je (ns.take n++[x]++ns.drop n) w wc->match x with
   | .el j=>(∃p,wc.cell? ⟨j,2,none⟩=some p)/\wc.frozen? ⟨j,2,none⟩=false/\Z (wc.setCell ⟨j,2,none⟩ (gJ k))
   |_=>Z wc):
  Calls prog 156 #[place k n,x.val] w λe w'=>e=p8/\Z w':=by
 have ad:=jk h.ir;have a0:=h.row.lt;obtain⟨w1,hw1⟩:∃w1,w1=w.alloc (gI #[gJ k,gn n] 214):=⟨_,rfl⟩;have k1:Kept [] w w1:=by rw[hw1];exact(Kept.refl _ _).alloc _
 have g1:w1.heap[w.heap.size]?=some (gI #[gJ k,gn n] 214):=by rw[hw1];exact fY w _
 have z1:w1.heap.size=w.heap.size+1:=by rw[hw1];simp
 have R:=h.kept k1 (by simp) (by simp);obtain⟨ao,cap,rfl⟩:=gG h.row;have HI:∀W,Kept [] w1 W->W.heap.size=w1.heap.size->Calls prog 248 #[.slice ao ns.length cap,gn n,oY w1.heap.size 1 1] (W.alloc (gI #[x.val] 183)) (Xv 183 base (.slice ao ns.length cap) ns.length n (ns.map Nd.val) x.val (W.alloc (gI #[x.val] 183))):=by
  intro W kW zW;have k2:Kept [] w1 (W.alloc (gI #[x.val] 183)):=kW.alloc _;have g2:=fY W (gI #[x.val] 183);rw[zW]at g2;exact acE (.inr ⟨rfl,rfl,rfl,rfl,rfl,rfl⟩) base ns.length n w1.heap.size _ x.val (ns.map Nd.val) _ (k2.ownsRow R.row (λ_ _=>by simp)) g2 (λe=>by grind) x.one (Ux ns) Y h.le (by grind)
 have f:=fU hZ;have H1:=fU R;have o:=fU HI;have a1:=fU k1;have D:=fU g1;have a3:=fU z1;have aa:=fU a0;have I:=fU (show k∉(Value.slice ao ns.length cap).ownBlock.toList by simpa using R.nr R.ir (by decide));have H:=fU (show w.heap.size∉(Value.slice ao ns.length cap).ownBlock.toList by grind);have a8:w.heap.size≠k:=by omega
 have a2:=fU hw1;clear h R HI hZ k1 g1 z1 a0 hw1;obtain⟨y,s,d⟩:∃y s,x.val= .iface y s:=by cases x<;>exact⟨_,_,rfl⟩
 rw[d]at o|-;go_enter func156,ntmps156
 go_wp21
 rw[<-a2.out]
 go_cut []from 6 to 19 (λwc=>Xx base k name av (.slice ao ns.length cap) je (ns.take n++[x]++ns.drop n) w wc/\wc.heap[w.heap.size]?=some (gI #[gJ k,gn n] 214))
 case first=>
  refine tC (by rfl) ?_;refine pN (λ(g:gO) z=>⟨#[place k n,.iface y s,gJ w.heap.size,undef,undef,undef,cd z 0 (gJ w.heap.size),cd z 1 (gJ k),cd z 2 (gJ w.heap.size),cd z 3 (gJ k),cd z 4 (gJ k),cd z 5 (jG k 3),cd z 6 (.slice ao ns.length cap),cd z 7 (jG w.heap.size 1),cd z 8 (gn n),cd z 9 (.iface y s),cd z 10 (oY w1.heap.size 1 1),cd z 11 (g),cd z 12 (gJ k),cd z 13 (jG k 3),undef,undef,undef,undef,undef,undef,undef,undef,undef,undef,undef],[]⟩) (λg z W=>OP base k n name av je ao cap ns x y s w w1 (dn z 10) (dn z 11) (dn z 14) g W) 15 [[],[0],[],[2],[3],[4],[5],[],[7],[],[9],[2,3,4,5,6,7,8,9,10],[1],[12],[0,1,2,3,4,5,6,7,8,9,10,11,12,13]] (undef) rfl (by rfl) (⟨(Kept.refl [] w1).drew,rfl⟩) ?_ ?_
  .repeat' first|exact mV|refine mU ?_ ?_
   all_goals
    rintro g z W A U V;simp[BV]at U;refine kP rfl ?_;intro K' m;simp only[ld,U];have gB:=A.ir D H;have ab:W.cell? ⟨w.heap.size,0,none⟩=some (gJ k):=by rw[fW gB];rfl
    have ac:W.cell? ⟨w.heap.size,1,none⟩=some (gn n):=by rw[fW gB];rfl
    have q:=A
    try simp only[U]at q
    try rw[V 14 (by decide)]at q
    try rw[V 11 (by decide)]at q
    try (have cK:W.cell? ⟨k,3,none⟩=some (.slice ao ns.length cap):=(by rw[fW (q.old.at H1.out.ir (by simp))];rfl))
    go_simp
    first
    |refine m _ _ ⟨g,?_,(by rw[oE (by decide),oE (by decide),oE (by decide)];exact A)⟩
    |have q:Kept [] w1 W/\W.heap.size=w1.heap.size:=q;refine m _ _ ⟨g,?_,(by rw[rT,oE (by decide),oE (by decide),V 11 (by decide),V 14 (by decide)];grind[OP])⟩;simp[oB,vo,ld,U,q.2]
    |obtain⟨J,q1,q2,hq⟩:∃J,Kept [] w1 J/\J.heap.size=w1.heap.size/\W=J.alloc (gI #[.iface y s] 183):=q;have C:=fU (o J q1 q2);rw[<-hq]at C;refine C.mono ?_;rintro e W2 ⟨v',rfl,a9,a7,a6⟩;refine m _ _ ⟨v',?_,(by rw[rT,oE (by decide),oE (by decide),V 14 (by decide)];exact abK q1 q2 hq a9 a7 a6)⟩
    |obtain⟨ho,hk,hf⟩:W.ownsRow base 183 1 g (ns.length+1) ((ns.map Nd.val).take n++[Value.iface y s]++(ns.map Nd.val).drop n)/\Kept (Value.slice ao ns.length cap).ownBlock.toList w1 W/\(g.ownBlock=(Value.slice ao ns.length cap).ownBlock\/∀b,g.ownBlock=some b->w1.heap.size+1<=b):=q;obtain⟨a4,N,rfl⟩:=gG ho;have gK:=hk.at H1.ir I;have cK:W.cell? ⟨k,3,none⟩=some (.slice ao ns.length cap):=(by rw[fW gK];rfl);have zK:=gE gK 3;go_simp;refine m _ _ ⟨.slice a4 (ns.length+1) N,?_,(by rw[rT];exact abJ H1 a1 a3 D I H Y hl a8 d ho hk hf)⟩
    all_goals simp[oB,vo,ld,U]
  .rintro g W A;rw[xz,xz,xz]at A;simp only[vc];rename_i JJ a5;refine a5 _ _ ?_;go_meet;exact A
 case rest=>
  have⟨hp,hbx⟩:=hcut;have l:=f _ hp;clear hp o H1 f;cases x with
  |el j=>
   have⟨⟨p,c2⟩,fz,l⟩:=l;have f:=fU l;injection d with e1 e2;subst e1 e2;have cb:wc.cell? ⟨w.heap.size,0,none⟩=some (gJ k):=by rw[fW hbx];rfl
   have r:=US (X:=57) underlying57;clear hbx l;go_wp2;go_end0;exact⟨rfl,f⟩
  |tx j=>
   have f:=fU l;injection d with e1 e2;subst e1 e2;have r:=Fo (X:=57) (T:=257) underlying57 rfl (by decide);clear l;go_wp2;go_end0;exact⟨rfl,f⟩
  |cm j=>
   have f:=fU l;injection d with e1 e2;subst e1 e2;have r:=Fo (X:=57) (T:=216) underlying57 rfl (by decide);clear l;go_wp2;go_end0;exact⟨rfl,f⟩
  |dt j=>
   have f:=fU l;injection d with e1 e2;subst e1 e2;have r:=Fo (X:=57) (T:=220) underlying57 rfl (by decide);clear l;go_wp2;go_end0;exact⟨rfl,f⟩
def Zs (base k n:Nat) (name:gy) (av kv:gO) (je:jg) (ns:List Nd) (x:Nd) (w:gv) (h:El base w k name av je kv ns) (g:n<=ns.length) (f:ns.length < 1048576) (d:base<=w.heap.size) (m:∀j,x≠ .el j):
  Calls prog 156 #[place k n,x.val] w λe w'=>e=p8/\Xx base k name av kv je (ns.take n++[x]++ns.drop n) w w':=by
 refine UB base k n name av kv je ns x w h g f d _ λwc l=>?_
 grind
def Th (base k n j:Nat) (name q:gy) (av kv m f:gO) (je l:jg) (ns r:List Nd) (w:gv) (h:El base w k name av je kv ns) (A:El base w j q m l f r) (D:j≠k) (V:∀g,f.ownBlock=some g->kv.ownBlock≠some g) (hn:n<=ns.length) (Z:ns.length < 1048576) (X:base<=w.heap.size):
  Calls prog 156 #[place k n,(Nd.el j).val] w λe w'=>e=p8/\(∃d,El base w' k name av je d (ns.take n++[.el j]++ns.drop n)/\(d.ownBlock=kv.ownBlock\/∀g,d.ownBlock=some g->w.heap.size<=g))/\El base w' j q m (some k) f r/\Kept (j::k::kv.ownBlock.toList) w w':=by
 refine UB base k n name av kv je ns (.el j) w h hn Z X _ λwc J=>?_;have I:∀g,f.ownBlock=some g->g∉k::kv.ownBlock.toList:=by
  intro g Y o;rcases List.mem_cons.1 o with rfl|o
  .exact A.nr h.ir (by decide) Y
  .grind
 have H:j∉k::kv.ownBlock.toList:=by
  intro o;rcases List.mem_cons.1 o with e|o
  .omega
  .exact h.nr A.ir (by decide) (by grind)
 have s:=A.kept J.kept H I;have⟨d,E2,f2⟩:=J.ex;have R:wc.cell? ⟨j,2,none⟩=some (kh l):=by rw[fW s.ir];rfl
 have U:=gE s.ir 2;have N:El base (wc.setCell ⟨j,2,none⟩ (kh (some k))) k name av je d (ns.take n++[.el j]++ns.drop n):=
  ⟨by rw[Below.heap_setCell wc ⟨j,2,none⟩ _ k (xu D)];exact E2.ir,yB (a:=⟨j,2,none⟩) E2.row (E2.nr s.ir (by decide)) _,E2.le,E2.TW⟩
 exact⟨⟨_,R⟩,U,⟨d,N,f2⟩,s.ZF (some k),(J.kept.mono (S':=j::k::kv.ownBlock.toList) (λy hy _=>oW _ hy)).setCell (p:=⟨j,2,none⟩) (.inl (by simp)) (kh (some k))⟩
def YO:(prog.info? 183).map (λi=>(i.zero,i.size,i.bytes))=some (some (.nilIface),1,16):=by kernel_rfl
def VK {l : List gO} {n : Nat} (d:i < j) (f:j<=n) (g:n<=l.length):
  ((l.take i++(l.take n).drop j++l.drop (i+(n - j))).take (n - (j - i)))=(l.take n).take i++(l.take n).drop j:=by
 have e:(l.take i++(l.take n).drop j).length=n - (j - i):=by simp;omega
 grind
def aaJ (g cap i j n:Nat) (f:jM) (w:gv) (o:w.heap[g]?=some (gI f 183)) (a4:n<=cap) (X:f.size=cap) (hi:i < j) (hj:j<=n) (a3:n<=1048576)
  (h1:∀u∈f.toList.take n,u.oneCell'=true):
  Calls prog 370 #[oY g n cap,gn i,gn j] w λe w'=>e=iq (oY g (n - (j - i)) cap)/\
   ∃q,w'.heap[g]?=some (gI q 183)/\q.size=cap/\q.toList.take (n - (j - i))=(f.toList.take n).take i++(f.toList.take n).drop j/\Kept [g] w w':=by
 obtain⟨i0,R,a5,Z,a6⟩:=tz YO;obtain⟨d,m⟩:∃d,d=(f.toList.take n).drop j:=⟨_,rfl⟩;have r:d.length=n - j:=by rw[m];simp;omega
 have I:∀t u,d[t]?=some u->f[j+t]?=some u:=by
  intro t u D;rw[m,U1,BN]at D;split at D
  .grind
  .cases D
 obtain⟨A,hA,J⟩:∃A:Addr,(if cap=j then some (⟨g,0,none⟩:Addr)else some ⟨g,j,none⟩)=some A/\Hid (∀t u,d[t]?=some u->w.drew.cell? (A.add t)=some u):=by
  by_cases h:cap=j
  .refine⟨⟨g,0,none⟩,by simp[h],λt u D=>?_⟩
   grind
  .refine⟨⟨g,j,none⟩,by simp[h],λt u D=>?_⟩;rw[show(⟨g,j,none⟩:Addr).add t=⟨g,j+t,none⟩from by unfold Addr.add;simp];exact(fW o _).trans (I t u D)
 have s1:Hid (d.length=(n - j)*1):=by rw[Em];exact r
 have s2:Hid (∀u∈d,u.oneCell'=true):=λu D=>h1 u (Ko (m▸D));have s3:Hid (∀t,t < d.length->(w.drew.cell? ⟨g,0+i*1+t,none⟩).isSome=true/\w.drew.frozen? ⟨g,0+i*1+t,none⟩=false):=by
  intro t Y;rw[r]at Y;refine⟨?_,gE o _⟩;show(w.cell? _).isSome=true;rw[fW o,wL (by omega)];rfl
 obtain⟨y,s⟩:∃y,y=w.drew.setCells g (0+i*1) d:=⟨_,rfl⟩;have H:y.heap[g]?=some (gI (jp f (0+i*1) d) 183):=by rw[s];exact km d w.drew g f _ _ _ o
 have N:Kept [g] w y:=by rw[s];exact Kept.setCells (.inl (by simp)) d _ (Kept.refl _ _).drew
 have a0:∀ty,(Builtin.clear_ #[140] ty #[.slice (some ⟨g,i+(n - j),none⟩) (n - (i+(n - j))) (cap - (i+(n - j)))]).run prog y= .ok (.tuple #[]) (y.setCells g (i+(n - j)) (List.replicate (n - (i+(n - j))) (.nilIface))):=
  λty=>Lib.run_clear_slice y _ _ ty _ underlying140 Tryz.zeroValue183 rfl rfl g (i+(n - j)) _ _ (by omega) (λt Y=>by rw[fW H,wL (by rw[ju];omega)];rfl) (λt Y=>gE H _)
 have HB:=km (List.replicate (n - (i+(n - j))) (Value.nilIface)) y g _ _ _ (i+(n - j)) H;have HK:=Kept.setCells (S:=[g]) (a:=w) (b:=g) (.inl (by simp)) (List.replicate (n - (i+(n - j))) (Value.nilIface)) (i+(n - j)) N;have U:(jp f (0+i*1) d).toList=f.toList.take (0+i*1)++d++f.toList.drop (0+i*1+d.length):=ky _ _ _ (by omega);have V:=ky (List.replicate (n - (i+(n - j))) (Value.nilIface)) (jp f (0+i*1) d) (i+(n - j)) (by rw[ju];grind);have HF:(jp (jp f (0+i*1) d) (i+(n - j)) (List.replicate (n - (i+(n - j))) (Value.nilIface))).toList.take (n - (j - i))=(f.toList.take n).take i++(f.toList.take n).drop j:=by
  rw[V,xq,Kq (by simp[ju];omega),U,r,m];rw[MG,RE (by omega)];have:=VK (l:=f.toList) hi hj (by grind)
  simpa using this
 have HW:=fU s;have a1:i<=cap:=by omega
 have a2:j<=cap:=by omega
 clear s;go_enter func370,ntmps370
 go_wp21
 go_region_law (refine step_append_room rfl (.tmp 22) (.tmp 25) 140 rfl 183 i0 1 underlying140 R Z g 0 i cap (by simp[Act.eval,Act.put]) A (n - j) (cap - j) d (by simp[Act.eval,Act.put]) s1 J s2 (by omega) s3 ?_;rw[<-HW.out])
 go_wp2;go_ret;exact⟨by rw[show n - (j - i)=i+(n - j) by omega];rfl,_,HB,by rw[ju,ju];exact X,HF,HK⟩
def Nd.ir:Nd->Nat
 | .el k=>k
 | .tx k=>k
 | .cm k=>k
 | .dt k=>k
def Nd.typ:Nd->TypeId
 | .el _=>142
 | .tx _=>260
 | .cm _=>218
 | .dt _=>222
def zU (w:gv) (x:Nd):Prop:=∃c,w.heap[x.ir]?=some (gI c x.typ)
def Nd.gW (j:Nat):Nd->Bool
 | .el k=>k==j
 |_=>false
variable {ns : List Nd}
def ndc:(prog.info? 57).map (λi=>i.comparable)=some true:=by kernel_rfl
def EI {U : TypeId} (f:T≠U) (w:gv):(binOp .eql 183 (.iface T v) (.iface U u)).run prog w= .ok (.bool false) w:=by
 have h:∀d:Nat,(Op.equalIn (d+1) 183 (.iface T v) (.iface U u)).run prog w= .ok false w:=λd=>by simp[Op.equalIn,pO underlying183,f]
 simp only[binOp];simp[Op.equal,Op.maxDepth,h 9999]
def adu {x : Nd} (l:zU w x) (g:zU w (.el j)):
  (binOp .eql 183 x.val (Nd.el j).val).run prog w= .ok (.bool (x.gW j)) w:=by
 obtain⟨i,f,d⟩:=Option.map_eq_some_iff.1 ndc;have⟨q,hq,hqs⟩:=Option.map_eq_some_iff.1 Ua;cases x with
 |el k=>
  by_cases h:k=j
  .subst h;have e:(Nd.el k).gW k=true:=by simp[Nd.gW]
   rw[e];exact run_eql_iface_ptr_same (P:=prog) w (⟨k,0,none⟩:Addr) underlying183 underlying57 f d hq
  .have⟨ca,ha⟩:=l;have⟨cb,hb⟩:=g;have e:(Nd.el k).gW j=false:=by simp[Nd.gW,h]
   rw[e];exact run_eql_iface_ptr_other (P:=prog) w (a:=⟨k,0,none⟩) (b:=⟨j,0,none⟩) underlying183 underlying57 f d hq (by omega) (by simp[h]) ha hb
 |tx k=>exact EI (by decide) w
 |cm k=>exact EI (by decide) w
 |dt k=>exact EI (by decide) w
def Fs (x:Nd):∃T v,x.val= .iface T (.pointer v):=by cases x<;>exact⟨_,_,rfl⟩
def PN (f j:Nat) (x:Nd) (w:gv) (l:w.cell? ⟨f,0,none⟩=some (gJ j)) (h:zU w x) (g:zU w (.el j)):
  Calls prog 355 #[x.val,gJ f] w λe w'=>e=iq (.bool (x.gW j))/\w'=w:=by
 have d:=adu h g;have⟨T,p,hv⟩:=Fs x;rw[hv]at d|-;unfold Nd.val at d;generalize x.gW j=r at d|-;go_enter func355,ntmps355;go_wp2;go_ret;simp
def qh (ns:List Nd) (p:Nd->Bool):Int:=if ns.findIdx p < ns.length then (ns.findIdx p:Int)else -1
def abA {p : Nd->Bool} (f:k < ns.length) (g:p ns[k]=true) (d:∀j,(hj:j < ns.length)->j < k->p ns[j]=false):qh ns p=k:=by
 grind[qh]
def abB {p : Nd->Bool} (d:∀j,(hj:j < ns.length)->p ns[j]=false):qh ns p= -1:=by
 grind[qh]
def aa1 (kv:gO) (ns:List Nd) (base o j:Nat) (w:gv) (ho:w.ownsRow base 183 1 kv ns.length (ns.map Nd.val)) (Y:∀x∈ns,zU w x) (U:zU w (.el j)) (R:w.cell? ⟨o,0,none⟩=some (gJ j)) (V:ns.length<=1048576):
  Calls prog 354 #[kv,.func (.func 355) #[] #[gJ o]] w λe w'=>e=iq (gn (qh ns (Nd.gW j)))/\w'=w:=by
 have H:=(λx hx=>PN o j x w R (Y x hx) U);rcases ho.2 with⟨rfl,N⟩|⟨g,cap,q,rfl,_,l,Z,_,_,h⟩
 .have n:ns=[]:=Xn N;subst n;go_enter func354,ntmps354;go_wp2;refine vq 1 ?_;rw[oU];go_wp2;go_ret;simp[qh]
 .have I:∀k,(r:k < ns.length)->w.cell? ⟨g,k,none⟩=some ns[k].val:=by
   intro k r;rw[fW l];have:(q.toList.take (ns.length*1))[k]?=some ns[k].val:=by rw[h];simp[r]
   rw[BN]at this;split at this
   .grind
   .omega
  go_enter func354,ntmps354;go_wp2
  go_loopw [8] (λi wr=>∃k:Nat,k<=ns.length/\i=gn k/\wr=w/\∀m,(s:m < ns.length)->m < k->(ns[m]).gW j=false) (λi _=>ns.length - (intOf i).toNat)
  case atStart=>grind
  case round=>
   obtain⟨k,r,rfl,rfl,D⟩:=hrel
   by_cases f:k < ns.length
   .have J:=I k f;have d:=H ns[k] (uR f);have⟨T,p,hv⟩:=Fs ns[k];rw[hv]at J d;cases hq:(ns[k]).gW j with
    |true=>
     rw[hq]at d;have y:=fU (abA f hq D)
     go_wp21
     refine d.mono ?_;rintro e w' ⟨rfl,A⟩;subst A;go_wp2;go_ret;exact⟨by rw[y.out];rfl,rfl⟩
    |false=>
     rw[hq]at d;have HQ:=hq
     go_wp21
     refine d.mono ?_;rintro e w' ⟨rfl,A⟩;subst A;go_wp2;go_roundw
     case rel=>
      refine⟨k+1,by omega,by go_num,by simp,λm s X=>?_⟩
      grind
     case measure=>simp[intOf];omega
   .have y:=fU (abB (ns:=ns) (p:=Nd.gW j) (λm s=>D m s (by omega)));go_wp2;go_ret;exact⟨by rw[y.out];rfl,rfl⟩
def I0 (base k j:Nat) (name:gy) (av kv:gO) (je:jg) (ns:List Nd) (w:gv) (h:El base w k name av je kv ns) (o:∀x∈ns,zU w x) (m:zU w (.el j)):
  Calls prog 332 #[gJ k,gJ j] w λe w'=>e=iq (gn (qh ns (Nd.gW j)))/\Kept [] w w':=by
 have d:Kept [] w (w.alloc (gI #[gJ j] 57)):=(Kept.refl _ _).alloc _;have s:=fY w (gI #[gJ j] 57);have f:∀x,zU w x->zU (w.alloc (gI #[gJ j] 57)) x:=λx ⟨c,l⟩=>⟨c,d.at l (by simp)⟩;have H:=aa1 kv ns base w.heap.size j _ (d.ownsRow h.row (λ_ _=>by simp)) (λx r=>f x (o x r)) (f _ m) (by simp) h.le;have g:=fW h.ir 3;dsimp at g;have n:=jk h.ir;obtain⟨ao,cap,rfl⟩:=gG h.row;generalize qh ns (Nd.gW j)=q at H|-;go_enter func332,ntmps332
 go_wp21
 refine H.mono ?_;rintro e w' ⟨rfl,rfl⟩;go_wp2;go_ret
 simp_all
def Jb (h:El base w k name av je kv ns) {m : Nat} (n:m < ns.length):∃g cap,kv=oY g ns.length cap/\w.cell? ⟨g,m,none⟩=some ns[m].val:=by
 rcases h.row.2 with⟨_,q⟩|⟨g,cap,l,rfl,_,f,o,_,_,d⟩
 .omega
 .refine⟨g,cap,rfl,?_⟩;rw[fW f];have:(l.toList.take (ns.length*1))[m]?=some ns[m].val:=by rw[d];simp[n]
  grind
def Ll (base k m l:Nat) (name d s:gy) (av kv:gO) (je:jg) (ns:List Nd) (w:gv) (h:El base w k name av je kv ns) (N:m < ns.length) (U:ns[m]= .tx l) (R:w.heap[l]?=some (gI #[gH d] 260)) (a4:d.size+s.size<=1048576):
  Calls prog 163 #[place k (m+1),gH s] w λe w'=>e=p8/\w'.heap[l]?=some (gI #[gH (d++s)] 260)/\Kept [l] w w':=by
 obtain⟨g,cap,rfl,V⟩:=Jb h N;rw[U]at V;have a1:=jk h.ir;have a6:=jk R;have a2:=h.le;obtain⟨w1,f⟩:∃w1,w1=w.alloc (gI #[gJ k,gn ((m+1:Nat))] 214):=⟨_,rfl⟩;have n:Kept [] w w1:=by rw[f];exact(Kept.refl _ _).alloc _
 have H:w1.heap[w.heap.size]?=some (gI #[gJ k,gn ((m+1:Nat))] 214):=by rw[f];exact fY w _
 have I:=h.kept n (by simp) (by simp);have o:=n.at R (by simp);have r:=fW H 0;have y:=fW H 1;have A:=fW I.ir 3;dsimp at r y A;have Y:w1.cell? ⟨g,m,none⟩=some (Nd.tx l).val:=by
  have⟨g',cap',e,c⟩:=Jb I N;injection e with e1;injection e1 with e2;injection e2 with e3;rw[e3,c,U]
 unfold Nd.val at Y;have D:=fW o 0;have fT:=gE o 0;dsimp at D;have a5:=US (X:=257) underlying257;have q:=fU f;have a3:(m:Int) < ns.length:=by omega
 clear f;go_enter func163,ntmps163
 go_wp21
 rw[show((m+1:Nat):Int)=(m:Int)+1 by omega]at q;rw[<-q.out]
 go_quiet (fail)
 have Z:(w1.drewN nq).cell? ⟨l,0,none⟩=some (gH d):=D;have a0:(w1.drewN nq).frozen? ⟨l,0,none⟩=false:=fT;have J:=run_string_add_sum (P:=prog) (w1.drewN nq) d s (by omega);have HB:=gg (w:=w1.drewN nq) o 0 (gH (d++s));have HK:=((n.mono (S':=[l]) (by simp)).drewN nq).setCell (p:=⟨l,0,none⟩) (.inl (by simp)) (gH (d++s));go_wp2;refine qf (Kr rfl _ _ _) rfl ?_
 grind
def N6 (base k n:Nat) (name s:gy) (av kv:gO) (je:jg) (ns:List Nd) (w:gv) (h:El base w k name av je kv ns) (hn:n<=ns.length) (Q:gv->Prop) (f:∀w1,Kept [] w w1->Calls prog 156 #[place k n,(Nd.tx w1.heap.size).val] (w1.alloc (gI #[gH s] 260)) λe w'=>e=p8/\Q w') (hx:∀m,(H:m < ns.length)->n=m+1->∀t,ns[m]≠ .tx t):
  Calls prog 163 #[place k n,gH s] w λe w'=>e=p8/\Q w':=by
 have a1:=jk h.ir;have a2:=h.le;obtain⟨w1,d⟩:∃w1,w1=w.alloc (gI #[gJ k,gn n] 214):=⟨_,rfl⟩;have J:Kept [] w w1:=by rw[d];exact(Kept.refl _ _).alloc _
 have R:w1.heap[w.heap.size]?=some (gI #[gJ k,gn n] 214):=by rw[d];exact fY w _
 have U:=h.kept J (by simp) (by simp);have A:=fW R 0;have o:=fW R 1;dsimp at A o;have l:=fU d;have r:w1.heap.size=w.heap.size+1:=by rw[d];simp
 by_cases h0:n=0
 .subst h0;have V:=f w1 J;rw[r,d]at V;have y:=(show Calls prog 156 #[.agg #[gJ k,gn 0],.iface 257 (gJ (w.heap.size+1))] ((w.alloc (gI #[gJ k,gn 0] 214)).alloc (gI #[gH s] 260)) (λe w'=>e=p8/\Q w')from V);clear d r;go_enter func163,ntmps163
  go_wp21
  refine y.mono ?_;rintro e w' ⟨rfl,HR⟩;go_wp2;go_end0
  grind
 .obtain⟨m,rfl⟩:∃m,n=m+1:=⟨n - 1,by omega⟩;have H:m < ns.length:=by omega
  have a4:=hx m H rfl;have⟨g,cap,hkv,c4⟩:=Jb U H;subst hkv;have D:=fW U.ir 3;dsimp at D;have I:∀(Z:TypeId) (w:gv),(Instr.typeAssert ns[m].val Z 257 true).run prog w= .ok (.tuple #[.pointer none,.bool false]) w:=by
   intro Z w;cases hq:ns[m]with
   |tx t=>grind
   |el t=>exact Fo (X:=257) underlying257 rfl (by decide) _ _ _
   |cm t=>exact Fo (X:=257) underlying257 rfl (by decide) _ _ _
   |dt t=>exact Fo (X:=257) underlying257 rfl (by decide) _ _ _
  have y:∀q,Calls prog 156 #[.agg #[gJ k,gn ((m:Int)+1)],.iface 257 (gJ w1.heap.size)] ((w1.drewN q).alloc (gI #[gH s] 260)) (λe w'=>e=p8/\Q w'):=
   λq=>f (w1.drewN q) (J.drewN q)
  have⟨xt,xp,hxv⟩:=Fs ns[m];rw[hxv]at c4 I;have a3:(m:Int) < ns.length:=by omega
  have N:w1.cell? ⟨w.heap.size,1,none⟩=some (gn ((m:Int)+1)):=o;have Y:w.heap.size < w1.heap.size:=by omega
  rw[show((m+1:Nat):Int)=(m:Int)+1 by omega]at l;have a0:=fU r;clear d r;go_enter func163,ntmps163
  go_wp21
  rw[<-l.out]
  go_quiet (fail)
  go_wp21
  refine(y nq).mono ?_;rintro e w' ⟨rfl,HR⟩;go_wp2;go_end0
  grind
def zU.kept {x : Nd} (h:zU w x) (d:Kept [] w w'):zU w' x:=by
 have⟨c,hc⟩:=h;exact⟨c,d.at hc (by simp)⟩
def El.Wc (h:El base w k name av je kv ns):zU w (.el k):=⟨_,h.ir⟩
def MV (w:gv) (o:Obj):∃W,W=w.alloc o/\Kept [] w W/\W.heap[w.heap.size]?=some o/\W.heap.size=w.heap.size+1:=⟨_,rfl,(Kept.refl _ _).alloc _,fY w _,by simp⟩
def Yz (base j:Nat) (name:gy) (av kv:gO) (ns:List Nd) (w:gv) (h:El base w j name av none kv ns):
  Calls prog 302 #[gJ j] w λe w'=>e=iq (.tuple #[.agg #[.pointer none,gn 0],.bool false])/\Kept [] w w':=by
 have g:w.cell? ⟨j,2,none⟩=some (.pointer none):=(fW h.ir 2).trans rfl;have f:=jk h.ir;have d:=(Kept.refl [] w).alloc (gI #[.pointer none,gn 0] 214);go_enter func302,ntmps302;go_wp2;refine qf (v:= .tuple #[.agg #[.pointer none,gn 0],.bool false]) ?_ rfl ⟨rfl,d⟩;simp[results,results302,asAddr,Result.andThen,go_sem]
def V0 (base j p:Nat) (name r:gy) (av kv n o:gO) (f:jg) (ns d:List Nd) (w:gv) (h:El base w j name av (some p) kv ns) (Z:El base w p r n f o d) (Y:∀x∈d,zU w x):
  Calls prog 302 #[gJ j] w λe w'=>e=iq (.tuple #[.agg #[gJ p,gn (qh d (Nd.gW j))],.bool true])/\Kept [] w w':=by
 have⟨w1,hw1,HK1,HG1,z1⟩:=MV w (gI #[.pointer none,gn 0] 214);have c2:w1.cell? ⟨j,2,none⟩=some (gJ p):=(fW (HK1.at h.ir (by simp)) 2).trans rfl;have X:=jk h.ir;have l:j≠w.heap.size:=by omega
 have J:=(λ(W:gv) (I:Kept [] w W)=>I0 base p j r n o f d W (Z.kept I (by simp) (λ_ _=>by simp)) (λx hx=>(Y x hx).kept I) (h.Wc.kept I));have R:w.cell? ⟨j,2,none⟩=some (gJ p):=(fW h.ir 2).trans rfl;have D:=fU hw1;have N:=h.ir;clear hw1;generalize qh d (Nd.gW j)=q at J|-;go_enter func302,ntmps302
 go_wp21
 rw[<-D.out]
 go_region_held3 (λw'=>w'.cell? ⟨j,2,none⟩=some (gJ p)) ((first|assumption|go_keep|exact(kU l).trans (by assumption)|exact(kU l).trans ((kU l).trans (by omega)))) ((go_at_call 332;refine(J _ HK1.drew).mono ?_;rintro e s ⟨rfl,g⟩;have H:Kept [] w s:=HK1.drew.trans g;have d2:s.cell? ⟨j,2,none⟩=some (gJ p):=(fW (H.at N (by simp)) 2).trans rfl;have m:s.heap[w.heap.size]?=some (gI #[.pointer none,gn 0] 214):=((Kept.refl [] w1).drew.trans g).at HG1 (by simp);have e0:s.cell? ⟨w.heap.size,0,none⟩=some (.pointer none):=(fW m 0).trans rfl;have e1:s.cell? ⟨w.heap.size,1,none⟩=some (gn 0):=(fW m 1).trans rfl;have y0:=gE m 0;have y1:=gE m 1;have y:=fU m;have A:=fU H;clear m H g))
 all_goals (try (go_wp21))
 have U:=gg (gg y 0 (gJ p)) 1 (gn q);have V:=fW U;refine qf (v:= .tuple #[.agg #[gJ p,gn q],.bool true]) ?_ rfl ⟨rfl,(A.setCell (p:=⟨w.heap.size,0,none⟩) (.inr (ig _)) _).setCell (p:=⟨w.heap.size,1,none⟩) (.inr (ig _)) _⟩;simp[results,results302,asAddr,Result.andThen,go_sem,V]
def TC (base j:Nat) (name:gy) (av kv:gO) (ns:List Nd) (w:gv) (h:El base w j name av none kv ns):
  Calls prog 358 #[gJ j] w λe w'=>e=p8/\w'=w:=by
 have d:w.cell? ⟨j,2,none⟩=some (.pointer none):=(fW h.ir 2).trans rfl;go_enter func358,ntmps358;go_wp2;go_end0;simp
def abM {g : Nat} {f d : jM} (m:i < ns.length) (h:base<=g) (l:w'.heap[g]?=some (gI d 183)) (A:d.size=cap) (y:ns.length<=cap) (o:cap<=maxLen) (q:f.toList.take ns.length=ns.map Nd.val) (r:d.toList.take (ns.length - 1)=(f.toList.take ns.length).take i++(f.toList.take ns.length).drop (i+1)):
  w'.ownsRow base 183 1 (oY g (ns.length - 1) cap) (ns.eraseIdx i).length ((ns.eraseIdx i).map Nd.val):=by
 have n:(ns.eraseIdx i).length=ns.length - 1:=by rw[Z5 m]
 have s:(ns.eraseIdx i).map Nd.val=(f.toList.take ns.length).take i++(f.toList.take ns.length).drop (i+1):=by
  rw[q,List.eraseIdx_eq_take_drop_succ,rA,List.map_take,List.map_drop]
 refine⟨by simp,.inr ⟨g,cap,d,by rw[n],h,l,by omega,o,by omega,?_⟩⟩
 grind
def TR (base p i g cap:Nat) (r:gy) (n:gO) (m:jg) (f:List Nd) (l:jM) (w:gv) (o q:Bool) (W:gv):Prop:=
 if q then (∃h,El base W p r n m h (f.eraseIdx i)/\h.ownBlock=some g)/\Kept [p,g] w W else if o then Kept [g] w W/\∃d,W.heap[g]?=some (gI d 183)/\d.size=cap/\d.toList.take (f.length - 1)=(l.toList.take f.length).take i++(l.toList.take f.length).drop (i+1)else Kept [] w W
def TR.any {p g : Nat} {o : gy} {f : gO} {d : jg} {q : List Nd} {n : jM} {l m : Bool} (h:TR base p i g cap o f d q n w l m W):Kept [p,g] w W:=by
 unfold TR at h;split at h
 .exact h.2
 split at h
 .exact h.1.mono (by simp)
 .exact h.mono (by simp)
def Gt (base j p i:Nat) (name I:gy) (av kv y s:gO) (o:jg) (ns d:List Nd) (w:gv) (h:El base w j name av (some p) kv ns) (D:El base w p I y o s d) (hn:∀x∈d,zU w x) (a8:j≠p) (a4:∀g,kv.ownBlock=some g->s.ownBlock≠some g) (hi:i < d.length) (N:qh d (Nd.gW j)=(i:Int)):
  Calls prog 358 #[gJ j] w λe w'=>e=p8/\(∃n,El base w' p I y o n (d.eraseIdx i)/\n.ownBlock=s.ownBlock)/\El base w' j name av none kv ns/\Kept (j::p::s.ownBlock.toList) w w':=by
 obtain⟨g,cap,f,rfl,a5,m,r,a9,aa,a0⟩:∃g cap f,s=oY g d.length cap/\base<=g/\w.heap[g]?=some (gI f 183)/\d.length<=cap/\cap<=maxLen/\f.size=cap/\f.toList.take d.length=d.map Nd.val:=by
  rcases D.row.2 with⟨_,e0⟩|⟨g,cap,f,e,hb,m,r,hm,hs,ht⟩
  .omega
  .exact⟨g,cap,f,e,hb,m,r,hm,by omega,by grind⟩
 have CI:=fU (I0 base p j I y _ o d w D hn h.Wc);rw[N]at CI;have a7:g≠p:=by have:=D.nr D.ir (by decide);simpa [Value.ownBlock]using this
 have a6:g≠j:=by have:=D.nr h.ir (by decide);simpa [Value.ownBlock]using this
 have c2:w.cell? ⟨j,2,none⟩=some (gJ p):=(fW h.ir 2).trans rfl;have CD:Hid (∀(W:gv),Kept [] w W->Calls prog 370 #[oY g d.length cap,gn i,gn ((i:Int)+1)] W λe w'=>e=iq (oY g (d.length - 1) cap)/\
   ∃l,w'.heap[g]?=some (gI l 183)/\l.size=cap/\l.toList.take (d.length - 1)=(f.toList.take d.length).take i++(f.toList.take d.length).drop (i+1)/\Kept [g] W w'):=fU (λW hk=>by
  rw[show((i:Int)+1)=((i+1:Nat):Int) by omega];have al:=aaJ g cap i (i+1) d.length f W (hk.at m (by simp)) r aa (by omega) (by omega) D.le (by rw[a0];exact Ux d)
  rwa [show i+1 - i=1 by omega]at al)
 have ap:(0:Int)<=(i:Int):=by omega
 have an:(i:Int) < 1048576:=by have:=D.le;omega
 have H:=fU h;have V:=fU D;have ab:=fU a4;have aj:=fU r;have ai:=fU a9;have ak:=fU a0;have HI:=fU hi;have ac:=fU a5;have U:=fU a8;have ae:=fU a7;have R:=fU a6;clear h D hn a4 r a9 a0 hi a5 a8 a7 a6 m aa N;go_enter func358,ntmps358
 go_wp21
 refine CI.out.mono ?_;rintro e w1 ⟨rfl,A⟩;have ag:=fU A;have d2:w1.cell? ⟨j,2,none⟩=some (gJ p):=(fW (A.at H.out.ir (by simp)) 2).trans rfl;have d3:w1.cell? ⟨p,3,none⟩=some (oY g d.length cap):=(fW (A.at V.out.ir (by simp)) 3).trans rfl;clear A c2
 go_wp21
 refine tC (by rfl) ?_;refine pN (λ(u:Unit) z=>⟨#[gJ j,undef,gn i,gJ j,gJ j,jG j 2,gJ p,.bool true,gJ j,gJ j,jG j 2,gJ p,gJ j,gn i,cd z 0 (gJ j),cd z 1 (gJ j),cd z 2 (jG j 2),cd z 3 (gJ p),cd z 4 (gJ j),cd z 5 (gJ j),cd z 6 (jG j 2),cd z 7 (gJ p),cd z 8 (gJ p),cd z 9 (jG p 3),cd z 10 (oY g d.length cap),cd z 11 (gn i),cd z 12 (gn i),cd z 13 (gn ((i:Int)+1)),cd z 14 (oY g (d.length - 1) cap),cd z 15 (gJ p),cd z 16 (jG p 3),undef,undef,undef],[]⟩) (λu z W=>TR base p i g cap I y o d f w (dn z 14) (dn z 17) W) 18 [[],[0],[1],[2],[],[4],[5],[6],[7],[8],[9],[],[],[12],[4,5,6,7,8,9,10,11,12,13],[3],[15],[0,1,2,3,4,5,6,7,8,9,10,11,12,13,14,15,16]] (()) rfl rfl (ag.out.drew) ?_ ?_
 .repeat' first|exact mV|refine mU ?_ ?_
  all_goals
   rintro u z W hI hc hn;simp[BV]at hc;refine kP rfl ?_;intro K' X;simp only[ld,hc];have c0:W.cell? ⟨j,2,none⟩=some (gJ p):=(fW (hI.any.at H.out.ir (by have:=R.out;have:=U.out;simp;omega)) 2).trans rfl;have q:=hI
   try simp only[hc]at q
   try rw[hn 17 (by decide)]at q
   try rw[hn 14 (by decide)]at q
   try (have q:Kept [] w W:=q;have c3:W.cell? ⟨p,3,none⟩=some (oY g d.length cap):=(fW (q.at V.out.ir (by simp)) 3).trans rfl)
   go_simp
   try rw[show IntKind.i64.wrap ((i:Int)+1)=(i:Int)+1 by rw[IntKind.wrap_i64];omega]
   first
   |refine X _ _ ⟨u,?_,(by rw[oE (by decide),oE (by decide)];exact hI)⟩
   |refine(CD.out W q).mono ?_;rintro e w2 ⟨rfl,l,Y,a1,Z,am⟩;refine X _ _ ⟨u,?_,(by rw[rT,oE (by decide),hn 17 (by decide)];exact⟨(Kept.mono q (by simp)).trans am,l,Y,a1,Z⟩)⟩
   |have⟨q,l,Y,a1,Z⟩:=q;have g2:=q.at V.out.ir (by have:=ae.out;simp;omega);have c3:W.cell? ⟨p,3,none⟩=some (oY g d.length cap):=(fW g2 3).trans rfl;have y3:=gE g2 3;go_simp;refine X _ _ ⟨u,?_,(by rw[rT];exact⟨⟨_,V.out.UL (g2.trans V.out.ir.symm) (abM HI.out ac.out Y a1 aj.out ai.out ak.out Z) (by rw[Z5 HI.out];have:=V.out.le;omega),rfl⟩,(Kept.mono q (by simp)).setCell (p:=⟨p,3,none⟩) (.inl (by simp)) _⟩)⟩
   simp[oB,vo,ld,hc]
 .rintro u W hI;rw[xz,xz]at hI;simp only[vc];have⟨⟨n,hE,ho⟩,hk⟩:=hI;have J:=H.out.kept hk (by have:=R.out;have:=U.out;simp;omega) (λx hx=>by
   have h1:=ab.out x hx;have h2:=H.out.nr V.out.ir (by decide);rw[hx]at h2;simp[Value.ownBlock]at h1 h2;simp;omega)
  have ad:=fU hE;have a2:=fU ho;have ah:=fU hk;have af:=fU (J.ZF none);have j2:W.cell? ⟨j,2,none⟩=some (gJ p):=(fW J.ir 2).trans rfl;have z2:=gE J.ir 2;clear hE ho hk J;rename_i KK a3;refine a3 _ _ ?_;clear a3 KK;go_wp2;go_end0;refine⟨rfl,⟨n,ad.out.kept ((Kept.refl [j] W).setCell (p:=⟨j,2,none⟩) (.inl (by simp)) _) (by have:=U.out;simp;omega) (λx hx=>?_),a2.out⟩,af.out,?_⟩
  .rw[a2.out]at hx;have e:=jL hx;have:=R.out;simp;omega
  .refine(ah.out.mono (S':=j::p::[g]) ?_).setCell (p:=⟨j,2,none⟩) (.inl (by simp)) _;simp
structure zu where
 name:gy
 gU:lh
 je:jg
 kids:List Nd
inductive AQ
 |el (e:zu)
 |tx (s:gy)
 |cm (s:gy)
 |dt (s:gy)
structure Ab where
 nodes:List AQ
 gz:kQ
 act:kQ
 head:jg
 form:jg
 mode:Nat
 kept:Nat
 waiting:List (Nat×Nat×gy)
 iR:Bool
 jN:Bool
 gP:Nat
 behind:Bool
 nD:gy
 iZ:Bool
 fresh:Bool
 pQ:Nat
 qQ:Nat
 oZ:Nat
inductive pG (α:Type)
 |ok (a:α) (σ:Ab)
 |stop (e:Nat) (gP:Nat)
 |stuck
def M (α:Type):=Ab->pG α
namespace M
def pure {α:Type} (a:α):M α:=λσ=> .ok a σ
def bind {α d:Type} (m:M α) (f:α->M d):M d:=λσ=>match m σ with
 | .ok a σ'=>f a σ'
 | .stop e p=> .stop e p
 | .stuck=> .stuck
instance :Monad M where
 pure:=M.pure
 bind:=M.bind
end M
def M.gx {α d:Type} (m:M α) (f:α->M d) (σ:Ab):(m>>=f) σ=match m σ with
 | .ok a σ'=>f a σ'
 | .stop e p=> .stop e p
 | .stuck=> .stuck:=rfl
def stuck {α:Type}:M α:=λ_=> .stuck
def wH (f:Ab->Ab):M Unit:=λσ=> .ok () (f σ)
def Ab.hU (σ:Ab) (i:Nat):Option zu:=match σ.nodes[i]? with
 |some (.el e)=>some e
 |_=>none
def Ab.gW (σ:Ab) (x:jg):Bool:=match x with
 |none=>true
 |some i=>(σ.hU i).isSome
def Ab.mG (σ:Ab) (x:jg):Bool:=match x with
 |none=>false
 |some i=>(σ.hU i).isSome
def Ab.vA {σ:Ab} (h:σ.mG x=true):σ.gW x=true:=by
 cases x with
 |none=>rfl
 |some i=>exact h
def Ab.ji (σ:Ab):Nd->Bool
 | .el i=>(σ.hU i).isSome
 | .tx i=>match σ.nodes[i]? with|some (.tx _)=>true|_=>false
 | .cm i=>match σ.nodes[i]? with|some (.cm _)=>true|_=>false
 | .dt i=>match σ.nodes[i]? with|some (.dt _)=>true|_=>false
def Ab.ib (σ:Ab) (i:Nat) (e:zu):Ab:={σ with nodes:=σ.nodes.set i (.el e)}
def Ab.add (σ:Ab) (n:AQ):Ab:={σ with nodes:=σ.nodes++[n]}
def Ab.pn (σ:Ab) (n:AQ) (d:Bool):Ab:={σ with nodes:=σ.nodes++[n],fresh:=d}
variable {σ : Ab}
def acT:gy:=fX
def acS:gy:=gA
def nk (s:gy):Bool:=kC s acT||kC s acS
structure Wf (σ:Ab):Prop where
 gz:∀x∈σ.gz,σ.mG x=true
 act:∀x∈σ.act,σ.gW x=true
 head:σ.gW σ.head=true
 form:σ.gW σ.form=true
 je:∀i e,σ.hU i=some e->σ.gW e.je=true
 kids:∀i e,σ.hU i=some e->∀k∈e.kids,σ.ji k=true
 xf:(σ.hU 0).isSome=true
def Ab.ik {e : zu} (h:σ.hU i=some e):i < σ.nodes.length:=by
 unfold Ab.hU at h
 grind
def Ab.jo {e : zu} (h:σ.hU i=some e):σ.nodes[i]?=some (.el e):=by
 unfold Ab.hU at h
 grind
def Ab.Si {e : zu} (h:σ.nodes[i]?=some (.el e)):σ.hU i=some e:=by
 grind[Ab.hU]
def words (s:gy):List gy:=(Lib.fields s.data.toList).map λl=>⟨l.toArray⟩
def ze (L:List (gy×gO)) (ks:List gy) (v:gO):List (gy×gO):=ks.foldl (λL k=>Cn L k v) L
def Qv (L:List (gy×gO)) (ks:List gy) (v:gO) (n:Nat) (d:n < ks.length):ze L (ks.take (n+1)) v=Cn (ze L (ks.take n) v) ks[n] v:=by
 unfold ze;rw[Z0 d,List.foldl_append];rfl
abbrev sO (w:gv):Prop:=Lib.TabIs prog w "strings.asciiSpace" .u8 Lib.asciiSpaceTab
def pT (s:gy):Bool:=decide (s.size < 4096)&&s.data.toList.all (λb=>decide (b.toNat < 128))&&decide ((words s).length<=4096)
def LW (s:gy) (w:gv) (d:pT s=true) (g:sO w):
  Calls prog 154 #[gH s] w λe w'=>e=iq (oY w.heap.size (words s).length (words s).length)/\w'=w.alloc (gI ((words s).map Value.string).toArray 9):=by
 unfold pT at d;simp only[rS,MI,RP]at d;have h:=Tryz.strings_Fields s w (by omega) (λj b f=>d.1.2 b (tA f)) g;refine h.mono ?_;rintro e w' ⟨rfl,rfl⟩;have e1:(words s).length=(Lib.fields s.data.toList).length:=by simp[words]
 refine⟨by rw[e1],?_⟩
 congr 2
 simp[words]
def ae2 (b:Nat) (s:gy) (v:gO) (L:List (gy×gO)) (w:gv) (o:pT s=true) (N:sO w) (J:sM w b L):
  Calls prog 84 #[.map (some b),gH s,v] w λe w'=>e=iq (.map (some b))/\sM w' b (ze L (words s) v)/\Kept [b] w w':=by
 have m:(words s).length<=4096:=by
  unfold pT at o;simp only[rS,MI]at o;exact o.2
 have D:=LW s w o N;have I:=J;clear o N J;generalize words s=d at D m|-;go_enter func84,ntmps84
 go_wp21
 refine D.mono ?_;rintro e w1 ⟨rfl,h⟩;have U:w1.heap[w.heap.size]?=some (gI (d.map Value.string).toArray 9):=by rw[h];exact fY w _
 have H:Kept [] w w1:=by rw[h];exact(Kept.refl _ _).alloc _
 have y:=I.kept H (by simp);have R:b≠w.heap.size:=by have:=I.lt;omega
 clear h;go_wp2
 go_loopw [12] (λi wr=>∃k:Nat,k<=d.length/\i=gn k/\sM wr b (ze L (d.take k) v)/\Kept [b] w wr/\wr.heap[w.heap.size]?=some (gI (d.map Value.string).toArray 9)) (λi _=>d.length - (intOf i).toNat)
 case atStart=>exact⟨0,iO _,rfl,y,H.mono (by simp),U⟩
 case round=>
  obtain⟨k,Y,rfl,g,l,f⟩:=hrel
  by_cases n:k < d.length
  .have X:wr.cell? ⟨w.heap.size,k,none⟩=some (gH d[k]):=by rw[fW f];simp[n]
   have⟨w2,r2,HM2,k2,z2⟩:=QV (T:=145) (E:=143) (by simp) g d[k] v;have r:=l.trans k2;have q:=k2.at f (by grind);have HS:=fU (Qv L d v k n);clear g l f k2 z2;go_wp2;go_roundw
   case rel=>exact⟨k+1,by omega,by go_num,by rw[HS.out];exact HM2,r,q⟩
   case measure=>simp[intOf];omega
  .have A:k=d.length:=by omega
   have V:=(show sM wr b (ze L d v) by grind);clear g f A;go_wp2;go_ret
   simp_all
def Bj (L:List (gy×Nat)):List (gy×gO):=L.map λp=>(p.1,gn p.2)
def wU:List (gy×Nat)->gy->Nat
 |[],_=>0
 |p::L,k=>if kC k p.1 then p.2 else wU L k
def Qz:List (gy×Nat)->gy->Nat->List (gy×Nat)
 |[],k,v=>[(k,v)]
 |p::L,k,v=>if kC k p.1 then (k,v)::L else p::Qz L k v
def IP:∀(L:List (gy×Nat)) (k:gy),(zP (Bj L) k).getD (gn 0)=gn (wU L k)
 |[],_=>rfl
 |p::L,k=>by
  show(if kC k p.1 then some (Value.int .i64 (p.2:Int))else zP (Bj L) k).getD _=_;unfold wU;split
  .rfl
  .exact IP L k
def QA:∀(L:List (gy×Nat)) (k:gy) (v:Nat),Cn (Bj L) k (gn v)=Bj (Qz L k v)
 |[],_,_=>rfl
 |p::L,k,v=>by
  show(if kC k p.1 then (k,Value.int .i64 (v:Int))::Bj L else (p.1,Value.int .i64 (p.2:Int))::Cn (Bj L) k _)=_;unfold Qz;split
  .rfl
  .rw[QA L k v];rfl
def L5:∀(L:List (gy×Nat)) (k:gy) (v:Nat) (s:gy),wU (Qz L k v) s=if kC s k then v else wU L s
 |[],k,v,s=>rfl
 |p::L,k,v,s=>by
  unfold Qz
  by_cases d:kC k p.1=true
  .grind[wU,kC,Qz]
  .rw[gQ d];unfold wU;rw[L5 L k v s]
   grind[kC]
def uX (L:List (gy×Nat)) (c:Nat) (ks:List gy):List (gy×Nat):=ks.foldl (λL k=>Qz L k (wU L k|||c)) L
def Vq (L:List (gy×Nat)) (ks:List gy) (c n:Nat) (d:n < ks.length):uX L c (ks.take (n+1))=Qz (uX L c (ks.take n)) ks[n] (wU (uX L c (ks.take n)) ks[n]|||c):=by
 unfold uX;rw[Z0 d,List.foldl_append];rfl
def afD:∀a c:Fin 16,a.1|||c.1 < 16:=by decide
def sQ {c : Nat} (d:c < 16) (ks:List gy):∀(L:List (gy×Nat)),(∀s,wU L s < 16)->∀s,wU (uX L c ks) s < 16:=by
 induction ks with
 |nil=>simp[uX]
 |cons k ks ih=>
  intro L h;refine ih _ λs=>?_;rw[L5];split
  .exact afD ⟨_,h k⟩ ⟨c,d⟩
  grind
def adZ:∀a c:Fin 16,IntKind.i64.wrap (((BitVec.ofInt 64 (a.1:Int))|||(BitVec.ofInt 64 (c.1:Int))).toNat:Int)=((a.1|||c.1:Nat):Int):=by decide
def aas:∀a c:Fin 16,IntKind.i64.wrap (((BitVec.ofInt 64 (a.1:Int))&&& (BitVec.ofInt 64 (c.1:Int))).toNat:Int)=((a.1&&& c.1:Nat):Int):=by decide
def aay (a c:Nat) (d:a < 16) (f:c < 16):bits .or .i64 (a:Int) (c:Int)=((a|||c:Nat):Int):=adZ ⟨a,d⟩ ⟨c,f⟩
def XT (a c:Nat) (d:a < 16) (f:c < 16):bits .and .i64 (a:Int) (c:Int)=((a&&& c:Nat):Int):=aas ⟨a,d⟩ ⟨c,f⟩
def ac9 (b:Nat) (s:gy) (c:Nat) (L:List (gy×Nat)) (w:gv) (H:pT s=true) (ht:sO w) (hm:sM w b (Bj L)) (hc:c < 16) (hL:∀s,wU L s < 16):
  Calls prog 77 #[.agg #[.map (some b)],gn c,gH s] w λe w'=>e=p8/\sM w' b (Bj (uX L c (words s)))/\Kept [b] w w':=by
 have y:(words s).length<=4096:=by
  unfold pT at H;simp only[rS,MI]at H;exact H.2
 have N:Kept [] w (w.alloc (gI #[.map (some b)] 137)):=(Kept.refl _ _).alloc _;have Y:=fY w (gI #[.map (some b)] 137);have HF:=LW s (w.alloc (gI #[.map (some b)] 137)) H (Lib.tabIs_alloc ht _);have HM:=hm.kept N (by simp);have a0:=hm.lt;have HL:=hL;clear H ht hm hL;generalize words s=d at HF y|-;obtain⟨J,o⟩:∃J,J=w.alloc (gI #[.map (some b)] 137):=⟨_,rfl⟩;go_enter func77,ntmps77
 go_wp21
 refine HF.mono ?_;rintro e w1 ⟨rfl,l⟩;rw[<-o]at l Y N HM;have X:J.heap.size=w.heap.size+1:=by rw[o];simp
 have HG:w1.heap[w.heap.size+1]?=some (gI (d.map Value.string).toArray 9):=by rw[l,<-X];exact fY J _
 have R:Kept [] J w1:=by rw[l];exact(Kept.refl _ _).alloc _
 have U:=R.at Y (by simp);have HK:=N.trans R;have V:=HM.kept R (by simp);clear l R N Y;go_wp2
 go_loopw [11] (λi wr=>∃k:Nat,k<=d.length/\i=gn k/\sM wr b (Bj (uX L c (d.take k)))/\Kept [b] w wr/\wr.heap[w.heap.size+1]?=some (gI (d.map Value.string).toArray 9)/\wr.heap[w.heap.size]?=some (gI #[.map (some b)] 137)) (λi _=>d.length - (intOf i).toNat)
 case atStart=>exact⟨0,iO _,rfl,V,HK.mono (by simp),HG,U⟩
 case round=>
  obtain⟨k,hk,rfl,h,n,g,f⟩:=hrel
  by_cases D:k < d.length
  .have c1:wr.cell? ⟨w.heap.size+1,k,none⟩=some (gH d[k]):=by rw[fW g];simp[D]
   have c2:=fW f 0;dsimp at c2;have m:=sQ hc (d.take k) L HL d[k];have A:=Fh (T:=135) (E:=159) (z:=gn 0) (by simp) (by simp) h d[k];rw[IP]at A;have r:=aay _ c m hc;have⟨w2,r2,HM2,k2,z2⟩:=QV (T:=135) (E:=159) (by simp) h d[k] (gn ((wU (uX L c (d.take k)) d[k]|||c:Nat):Int));rw[QA,<-Vq L d c k D]at HM2;have a3:=n.trans k2;have a2:=k2.at g (by grind);have a1:=k2.at f (by grind);obtain⟨q,hq⟩:∃q,q=wU (uX L c (d.take k)) d[k]:=⟨_,rfl⟩;rw[<-hq]at A r r2;obtain⟨q2,I⟩:∃q2:Nat,q2=q|||c:=⟨_,rfl⟩;rw[<-I]at r r2;clear h n g f k2 z2 hq I m;go_wp2;go_roundw
   case rel=>grind
   case measure=>simp[intOf];omega
  .have Z:k=d.length:=by omega
   have a4:=(show sM wr b (Bj (uX L c d)) by grind);clear h g Z f;go_wp2;go_end0
   grind
def Rz:List gy:=[j3,uj,tm,jE,jh,io]
def Ei:List gy:=[fX,gS,jq,iQ,jh,gA,nc,jS,mf,mg,oy,qI,kM,lB,lC,mL,iL,hH,jE,j3,uj,tm,fZ,gw,gh,io,gp,gr,gq,ic,iy,iA,gV,iX,jF]
def Kh:List gy:=[lB,lC,kM,gN,gm,nc]
def UW:List gy:=[fX,fZ,iy,iA,gw,gV]
def B8:List (gy×Nat):=uX (uX (uX (uX [] 1 Rz) 2 Ei) 4 Kh) 8 UW
def sO.kept (h:sO w) (l:Kept S w w') (g:1∉S):sO w':=by
 unfold sO Lib.TabIs World.var? at *;have e:prog.globalNamed "strings.asciiSpace"=some 1:=rfl;simp only[e,Option.bind_some]at h|-;have d:1 < w.heap.size:=by
  rcases rC 1 w.heap.size with f|f
  .exact f
  .grind
 rw[l.block _ d g];exact h
def GQ (b:Nat) (s:gy) (c:Nat) (L:List (gy×Nat)) (ks:List gy) (w:gv) (l:pT s=true) (d:words s=ks) (m:sO w) (h:sM w b (Bj L)) (g:c < 16) (f:∀s,wU L s < 16):
  Calls prog 77 #[.agg #[.map (some b)],gn c,gH s] w λe w'=>e=p8/\sM w' b (Bj (uX L c ks))/\Kept [b] w w':=by
 rw[<-d];exact ac9 b s c L w l m h g f
def Qi:∀s,wU [] s < 16:=λ_=>Nat.zero_lt_succ 15
def Le (w:gv) (ht:sO w):
  Calls prog 48 #[] w λe w'=>∃bm,e=iq (.agg #[.map (some bm)])/\sM w' bm (Bj B8)/\Kept [] w w'/\w.heap.size<=bm:=by
 have a8:=@run_makeMap prog;obtain⟨W,f⟩:∃W,W=((w.alloc (gI #[.map none] 137)).alloc (.map #[] 0)).alloc (gI #[.map (some (w.heap.size+1))] 137):=⟨_,rfl⟩;have kW:Kept [] w W:=by rw[f];exact(((Kept.refl _ _).alloc _).alloc _).alloc _
 have H0:W.heap[w.heap.size]?=some (gI #[.map none] 137):=by
  rw[f,Below.heap_alloc _ _ _ (by simp;omega),Below.heap_alloc _ _ _ (by simp)];exact fY w _
 have g1:W.heap[w.heap.size+1]?=some (.map #[] 0):=by
  rw[f,Below.heap_alloc _ _ _ (by simp)];have:=fY (w.alloc (gI #[.map none] 137)) (.map #[] 0)
  rwa [rB]at this
 have H2:W.heap[w.heap.size+1+1]?=some (gI #[.map (some (w.heap.size+1))] 137):=by
  rw[f];have:=fY ((w.alloc (gI #[.map none] 137)).alloc (.map #[] 0)) (gI #[.map (some (w.heap.size+1))] 137)
  rwa [rB,rB]at this
 have HM:sM W (w.heap.size+1) (Bj []):=⟨#[],0,g1,rfl⟩;have s:1∉[w.heap.size+1]:=by
  have a7:1 < w.heap.size:=by
   have h:=ht;unfold sO Lib.TabIs World.var? at h;have e:prog.globalNamed "strings.asciiSpace"=some 1:=rfl;simp only[e,Option.bind_some]at h;rcases rC 1 w.heap.size with h'|h'
   .exact h'
   .grind
  intro r;have:=List.mem_singleton.1 r;omega
 have HT:=ht.kept kW (by simp);have HK:=kW.mono (S':=[w.heap.size+1]) (by simp);have HW:=fU f;clear f;go_enter func48,ntmps48
 go_wp21
 rw[<-HW.out];refine(GQ (w.heap.size+1) _ 1 [] Rz W (by rfl) (by rfl) HT HM (by decide) Qi).mono ?_;rintro e w1 ⟨rfl,a0,y⟩;have n:=HT.kept y s;have U:=HK.trans y;have I:=y.at H0 (by simp);have g:=fU (y.at H2 (by simp));have c1:=fW g.out 0;dsimp at c1
 go_wp21
 refine(GQ (w.heap.size+1) _ 2 (uX [] 1 Rz) Ei w1 rfl rfl n a0 (by decide) (sQ (by decide) _ _ Qi)).mono ?_;rintro e w2 ⟨rfl,a1,A⟩;have o:=n.kept A s;have V:=U.trans A;have J:=A.at I (by simp);have l:=fU (A.at g (by simp));have c2:=fW l.out 0;dsimp at c2
 go_wp21
 refine(GQ (w.heap.size+1) _ 4 (uX (uX [] 1 Rz) 2 Ei) Kh w2 (by rfl) (by rfl) o a1 (by decide) (sQ (by decide) _ _ (sQ (by decide) _ _ Qi))).mono ?_;rintro e w3 ⟨rfl,a2,D⟩;have q:=o.kept D s;have X:=V.trans D;have N:=D.at J (by simp);have m:=fU (D.at l (by simp));have c3:=fW m.out 0;dsimp at c3
 go_wp21
 refine(GQ (w.heap.size+1) _ 8 (uX (uX (uX [] 1 Rz) 2 Ei) 4 Kh) UW w3 (by rfl) (by rfl) q a2 (by decide) (sQ (by decide) _ _ (sQ (by decide) _ _ (sQ (by decide) _ _ Qi)))).mono ?_;rintro e w4 ⟨rfl,a3,H⟩;have a6:=q.kept H s;have Y:=X.trans H;have d:=fU (H.at N (by simp));have R:=fU (H.at m (by simp));have c4:=fW R.out 0;have f4:=gE d 0;have a5:=fW d.out 0;dsimp at c4 a5;have Z:=(Y.mono (S':=[]) (λk hk hl=>by grind)).setCell (p:=⟨w.heap.size,0,none⟩) (.inr (ig _)) (.map (some (w.heap.size+1)));have a4:=a3.keeps (w':=w4.setCell ⟨w.heap.size,0,none⟩ (.map (some (w.heap.size+1)))) (Below.heap_setCell w4 ⟨w.heap.size,0,none⟩ _ _ (by simp));have c5:=fW (gg d 0 (.map (some (w.heap.size+1)))) 0;go_wp2;refine qf (v:= .agg #[.map (some (w.heap.size+1))]) ?_ rfl ⟨w.heap.size+1,rfl,a4,Z,by omega⟩;simp[results,f48,go_sem,c5]
def isC (L:List (gy×Nat)) (c:Nat) (s:gy):Bool:=decide (wU L s&&& c≠0)
def lc:gy->Bool:=isC B8 2
def uM:gy->Bool:=isC B8 4
def iP:gy->Bool:=isC B8 8
def aaF:∀s,wU B8 s < 16:=sQ (by decide) _ _ (sQ (by decide) _ _ (sQ (by decide) _ _ (sQ (by decide) _ _ Qi)))
def aat (h l bm c:Nat) (L:List (gy×Nat)) (w:gv) (o:w.heap[h]?=some (gI #[.map (some bm)] 137)) (A:w.heap[l]?=some (gI #[gn c] 159)) (r:sM w bm (Bj L)) (R:c < 16) (D:∀s,wU L s < 16):
  nQ [h,l,bm] (.func (.func 78) #[] #[gJ h,gJ l]) (isC L c) w:=by
 refine⟨⟨_,_,rfl,enters_of func78 (by rfl) rfl,λW m s=>?_⟩,λe H=>?_⟩
 .have J:=fW (nY m (by simp) o) 0;have N:=fW (nY m (by simp) A) 0;dsimp at J N;have f:=Fh (T:=135) (E:=159) (z:=gn 0) (by simp) (by simp) (r.keeps (m bm (by simp))) s;rw[IP]at f;have d:=XT _ c (D s) R;have I:isC L c s=decide (wU L s&&& c≠0):=rfl;rw[I];generalize wU L s=q at f d|-;obtain⟨n,g⟩:∃n:Nat,n=q&&& c:=⟨_,rfl⟩;rw[<-g]at d|-;clear o A r m D g I;show Calls prog 78 #[gH s,gJ h,gJ l] W _
  by_cases y:n=0
  .subst y;go_enter func78,ntmps78;go_wp2;go_ret;simp
  .have o:¬((n:Int)=0):=by omega
   rw[vp y];go_enter func78,ntmps78;go_wp2;go_ret
   simp_all
 .simp at H;rcases H with rfl|rfl|rfl
  .grind
  .grind
  .exact r.lt
def abh (d:Nat) (f:Int) (w:gv):
  Calls prog 88 #[gJ d,gn f] w λe w'=>e=iq (.func (.func 161) #[] #[gJ w.heap.size,gJ (w.heap.size+1)])/\w'=((w.alloc (gI #[gJ d] 93)).alloc (gI #[gn f] 154)):=by
 go_enter func88,ntmps88;go_wp2;go_ret;simp
def NL (h:Nat) (f:Fn) (d g:jM) (w:gv):
  Calls prog 80 #[gJ h,.func f d g] w λe w'=>e=iq (.func (.func 155) #[] #[gJ w.heap.size])/\w'=(w.alloc (gI #[.func f d g] 190)):=by
 go_enter func80,ntmps80;go_wp2;go_ret;simp
def NM (f:Nat) (g:Fn) (d h:jM) (w:gv):
  Calls prog 112 #[gJ f,.func g d h] w λe w'=>e=iq (.func (.func 208) #[] #[gJ (w.heap.size+1),gJ w.heap.size])/\w'=((w.alloc (gI #[gJ f] 93)).alloc (gI #[.func g d h] 70)):=by
 go_enter func112,ntmps112;go_wp2;go_ret;simp
def abj (f:Fn) (d g:jM) (w:gv):
  Calls prog 116 #[.func f d g] w λe w'=>e=iq (.func (.func 213) #[] #[gJ w.heap.size])/\w'=(w.alloc (gI #[.func f d g] 70)):=by
 go_enter func116,ntmps116;go_wp2;go_ret;simp
def NN (f:Nat) (g:Fn) (d h:jM) (w:gv):
  Calls prog 124 #[gJ f,.func g d h] w λe w'=>e=iq (.func (.func 218) #[] #[gJ w.heap.size,gJ (w.heap.size+1)])/\w'=((w.alloc (gI #[gJ f] 93)).alloc (gI #[.func g d h] 143)):=by
 go_enter func124,ntmps124;go_wp2;go_ret;simp
def Qd (f:Nat) (g:Fn) (d h:jM) (l:Int) (w:gv):
  Calls prog 109 #[gJ f,.func g d h,gn l] w λe w'=>e=iq (.func (.func 205) #[] #[gJ w.heap.size,gJ (w.heap.size+1),gJ (w.heap.size+1+1)])/\w'=(((w.alloc (gI #[gJ f] 93)).alloc (gI #[.func g d h] 150)).alloc (gI #[gn l] 154)):=by
 go_enter func109,ntmps109;go_wp2;go_ret;simp
def NP (f:Nat) (g:Fn) (d h:jM) (m:gy) (l:Int) (w:gv):
  Calls prog 111 #[gJ f,.func g d h,gH m,gn l] w λe w'=>e=iq (.func (.func 207) #[] #[gJ w.heap.size,gJ (w.heap.size+1),gJ (w.heap.size+1+1),gJ (w.heap.size+1+1+1)])/\w'=((((w.alloc (gI #[gJ f] 93)).alloc (gI #[.func g d h] 150)).alloc (gI #[gH m] 9)).alloc (gI #[gn l] 154)):=by
 go_enter func111,ntmps111;go_wp2;go_ret;exact⟨by simp,rfl⟩
def Hl:List TypeId:=[157,142,183,260,57,97,275,132,106,147,59]
def Vh:List TypeId:=[157,142,183,260,57,97,275,132,147]
def OO (h:t∈Vh):t∈Hl:=by
 revert t;decide
def Calm (w:gv) (e:Nat):Prop:=(∃f d,w.heap[e]?=some (.map f d))\/∃c t,w.heap[e]?=some (gI c t)/\t∉Hl
def Fr (bs:Nat) (w w':gv):Prop:=∃S,Kept S w w'/\∀k∈S,k < w.heap.size->(∃c t m,w.heap[k]?=some (.cells c t m)/\t∈Vh)/\bs<=k
def Fr.gX (h:Kept [] w w'):Fr bs w w':=⟨[],h,λ_ d=>by cases d⟩
def Fr.refl (w:gv):Fr bs w w:= .gX (Kept.refl _ _)
def Fr.size (h:Fr bs w w'):w.heap.size<=w'.heap.size:=by have⟨S,hk,_⟩:=h;exact hk.size
def Fr.calm (h:Fr bs w w') (l:Calm w e):w'.heap[e]?=w.heap[e]?:=by
 have⟨S,hk,hS⟩:=h;have d:e < w.heap.size:=by
  rcases l with⟨o,n,f⟩|⟨c,t,f,_⟩
  .grind
  .grind
 refine hk.block e d λq=>?_;have⟨⟨c,t,m,h2,ht⟩,_⟩:=hS e q d;rcases l with⟨o,n,f⟩|⟨r,s,f,g⟩
 .grind
 .rw[f]at h2;simp at h2;exact g (by rw[h2.2.1];exact OO ht)
def Fr.trans {b c : gv} (h:Fr bs a b) (k:Fr bs b c):Fr bs a c:=by
 have⟨S1,k1,h1⟩:=h;have⟨S2,k2,h2⟩:=k;refine⟨S1++S2,(k1.mono (λx f _=>by simp[f])).trans (k2.mono (λx f _=>by simp[f])),λx f d=>?_⟩
 by_cases g:x∈S1
 .grind
 .have l:x∈S2:=by simpa [g]using f
  have⟨⟨cc,t,m,hc,ht⟩,hbs⟩:=h2 x l (lV d k1.size);exact⟨⟨cc,t,m,(k1.block x d g).symm.trans hc,ht⟩,hbs⟩
def Fr.jU (h:Kept S w w') (d:∀k∈S,(∃c t m,w.heap[k]?=some (.cells c t m)/\t∈Vh)/\bs<=k):Fr bs w w':=⟨S,h,λk f _=>d k f⟩
def Fr.cell (h:Fr bs w w') (d:w.heap[e]?=some (gI c t)) (f:t∉Hl):w'.heap[e]?=some (gI c t):=(h.calm (.inr ⟨c,t,d,f⟩)).trans d
def Fr.kept (h:Fr bs w w') (d:Kept [] a w) (l:a.heap.size<=bs):Kept [] a w':=by
 have⟨S,hS,hT⟩:=h;refine⟨hS.os.trans d.os,hS.tape.trans d.tape,hS.output.trans d.output,jP d.size hS.size,λk f _=>?_⟩;refine(hS.block k (lV f d.size) λg=>?_).trans (d.block k f (by simp));have:=(hT k g (lV f d.size)).2;omega
def Fr.zz (h:Fr bs w w') {m : Nat×Nat} (f:w.heap[e]?=some (.cells c t m)) (l:t∉Vh):w'.heap[e]?=some (.cells c t m):=by
 have⟨S,hS,hT⟩:=h;have d:e < w.heap.size:=(Array.getElem?_eq_some_iff.1 f).1;refine(hS.block e d λg=>?_).trans f
 grind
def xP (bm:Nat) (w:gv) (e:Nat):Prop:=(e=bm/\∃f d,w.heap[e]?=some (.map f d))\/∃c t,w.heap[e]?=some (gI c t)/\t∉Hl
def vT (bm:Nat) (w w':gv):Prop:=∃S,Kept S w w'/\∀k∈S,k < w.heap.size->(∃c t m,w.heap[k]?=some (.cells c t m)/\t∈Hl)\/((∃f d,w.heap[k]?=some (.map f d))/\k≠bm)
def Fr.n (h:Fr bs w w') (bm:Nat):vT bm w w':=by
 have⟨S,hk,hS⟩:=h;exact⟨S,hk,λk d f=>by have⟨⟨c,t,m,h3,h4⟩,_⟩:=hS k d f;exact .inl ⟨c,t,m,h3,OO h4⟩⟩
def vT.gX (h:Kept [] w w'):vT bm w w':=(Fr.gX (bs:=0) h).n bm
def vT.refl (bm:Nat) (w:gv):vT bm w w:= .gX (Kept.refl _ _)
def vT.size (h:vT bm w w'):w.heap.size<=w'.heap.size:=by have⟨S,hk,_⟩:=h;exact hk.size
def vT.of_map (h:Kept [b] w w') (l:∃f d,w.heap[b]?=some (.map f d)) (g:b≠bm):vT bm w w':=⟨[b],h,λk m _=>by grind⟩
def vT.calm (h:vT bm w w') (g:xP bm w e):w'.heap[e]?=w.heap[e]?:=by
 have⟨S,hk,hS⟩:=h;have f:e < w.heap.size:=by
  rcases g with⟨_,o,n,d⟩|⟨c,t,d,_⟩
  .grind
  .grind
 refine hk.block e f λA=>?_;rcases hS e A f with⟨c,t,m,y,I⟩|⟨⟨s,r,y⟩,D⟩
 .rcases g with⟨_,o,n,d⟩|⟨q,H,d,l⟩
  all_goals grind
 .rcases g with⟨e1,o,n,d⟩|⟨q,H,d,l⟩
  all_goals grind
def xP.fr (d:xP bm w e) (h:vT bm w w'):xP bm w' e:=by
 have e1:=h.calm d
 grind[xP]
def vT.trans {b c : gv} (h:vT bm a b) (k:vT bm b c):vT bm a c:=by
 have⟨S1,k1,h1⟩:=h;have⟨S2,k2,h2⟩:=k;refine⟨S1++S2,(k1.mono (λx d _=>by simp[d])).trans (k2.mono (λx d _=>by simp[d])),λx d g=>?_⟩
 by_cases f:x∈S1
 .grind
 .have l:x∈S2:=by simpa [f]using d
  have e:=k1.block x g f
  grind
def vT.cell (h:vT bm w w') (d:w.heap[e]?=some (gI c t)) (f:t∉Hl):w'.heap[e]?=some (gI c t):=(h.calm (.inr ⟨c,t,d,f⟩)).trans d
def xR (w:gv):Prop:=sO w/\∃c t,w.heap[1]?=some (gI c t)/\t∉Hl
def xR.fr (d:xR w) (h:vT bm w w'):xR w':=by
 have⟨hb1,c,t,hc,ht⟩:=d;have e1:=h.calm (.inr ⟨c,t,hc,ht⟩);refine⟨?_,c,t,e1.trans hc,ht⟩;unfold sO Lib.TabIs World.var? at hb1|-;have e:prog.globalNamed "strings.asciiSpace"=some 1:=rfl
 grind
def Ask (bm:Nat) (v:gO) (p:gy->Bool) (w:gv):Prop:=∃E,nQ E v p w/\∀e∈E,xP bm w e
def Ask.fr (h:Ask bm v p w) (d:vT bm w w'):Ask bm v p w':=by
 have⟨E,hA,hC⟩:=h;exact⟨E,hA.keeps (λk g=>d.calm (hC k g)) d.size,λe f=>(hC e f).fr d⟩
def Ask.call (h:Ask bm v p w):∃k f,v= .func (.func k) #[] f/\(∀d w,(callFunc k d).run prog w= .ok (.enter k d) w)/\∀W,vT bm w W->∀s,Calls prog k (#[gH s]++f) W λe g=>e=iq (.bool (p s))/\g=W:=by
 have⟨E,hA,hC⟩:=h;have⟨k,f,hv,he,ha⟩:=hA.ex;exact⟨k,f,hv,he,λW m s=>ha W (λe l=>m.calm (hC e l)) s⟩
def NF (bm g cap:Nat) (d:List gy) (w:gv) (o:w.heap[g]?=some (gI (d.map Value.string).toArray 9)) (f:d.length<=4096):
  Calls prog 206 #[oY g d.length cap] w λe w'=>(∃v,e=iq v/\Ask bm v (ij d) w')/\Kept [] w w':=by
 refine(acF g cap d.length w).mono ?_;rintro e w' ⟨rfl,rfl⟩;have n:Kept [] w (w.alloc (gI #[oY g d.length cap] 210)):=(Kept.refl _ _).alloc _;have h:=fY w (gI #[oY g d.length cap] 210);have l:=n.at o (by simp);refine⟨⟨_,rfl,_,YP _ g cap d _ h l f,λe m=>?_⟩,n⟩;simp at m;rcases m with rfl|rfl
 .exact .inr ⟨_,_,h,by decide⟩
 .exact .inr ⟨_,_,l,by decide⟩
def aau (bm c:Nat) (L:List (gy×Nat)) (w:gv) (q:sM w bm (Bj L)) (o:c < 16) (n:∀s,wU L s < 16):
  Calls prog 49 #[.agg #[.map (some bm)],gn c] w λe w'=>(∃v,e=iq v/\Ask bm v (isC L c) w')/\Kept [] w w':=by
 have h:Calls prog 49 #[.agg #[.map (some bm)],gn c] w λe w'=>e=iq (.func (.func 78) #[] #[gJ w.heap.size,gJ (w.heap.size+1)])/\w'=(w.alloc (gI #[.map (some bm)] 137)).alloc (gI #[gn c] 159):=by
  go_enter func49,ntmps49;go_wp2;go_ret;exact⟨by simp,rfl⟩
 refine h.mono ?_;rintro e w' ⟨rfl,rfl⟩;have r:Kept [] w (w.alloc (gI #[.map (some bm)] 137)):=(Kept.refl _ _).alloc _;have l:=r.alloc (gI #[gn c] 159);have d:=fY (w.alloc (gI #[.map (some bm)] 137)) (gI #[gn c] 159);rw[rB]at d;have f:=(Below.heap_alloc (w.alloc (gI #[.map (some bm)] 137)) (gI #[gn c] 159) w.heap.size (by simp)).trans (fY w _);have m:=q.kept l (by simp);refine⟨⟨_,rfl,_,aat _ _ bm c L _ f d m o n,λe g=>?_⟩,l⟩;simp at g;rcases g with rfl|rfl|rfl
 .exact .inr ⟨_,_,f,by decide⟩
 .exact .inr ⟨_,_,d,by decide⟩
 .have⟨es,ck,ha,_⟩:=m;exact .inl ⟨rfl,es,ck,ha⟩
def Mh {d f : List Nat} {g h : Nat} (l:xP bm w g) (m:xP bm w h) (c1:∀e∈d,xP bm w e) (c2:∀e∈f,xP bm w e):∀e∈g::h::(d++f),xP bm w e:=by
 grind
def adY (bm:Nat) (v1 v2:gO) (p q:gy->Bool) (w:gv) (m:Ask bm v1 p w) (n:Ask bm v2 q w):
  Calls prog 226 #[v1,v2] w λe w'=>(∃v,e=iq v/\Ask bm v (λs=>p s||q s) w')/\Kept [] w w':=by
 have⟨E1,a1,c1⟩:=m;have⟨E2,a2,c2⟩:=n;refine(abw E1 E2 v1 v2 p q w a1 a2).mono ?_;rintro e w' ⟨⟨v,rfl,l,g,h⟩,f⟩;exact⟨⟨v,rfl,_,l,Mh (.inr ⟨_,_,g,by decide⟩) (.inr ⟨_,_,h,by decide⟩) (λe d=>(c1 e d).fr (.gX f)) (λe d=>(c2 e d).fr (.gX f))⟩,f⟩
def abm (bm:Nat) (v1:gO) (p:gy->Bool) (w:gv) (l:Ask bm v1 p w):
  Calls prog 225 #[v1] w λe w'=>(∃v,e=iq v/\Ask bm v (λs=>!p s) w')/\Kept [] w w':=by
 have⟨E1,a1,c1⟩:=l;refine(Zc E1 v1 p w a1).mono ?_;rintro e w' ⟨⟨v,rfl,h,g⟩,f⟩;refine⟨⟨v,rfl,_,h,λe d=>?_⟩,f⟩;simp at d;rcases d with rfl|d
 .exact .inr ⟨_,_,g,by decide⟩
 .exact(c1 e d).fr (.gX f)
end
end Go.Proofs.YtofkkmcdggkkpaaGreatDoor
