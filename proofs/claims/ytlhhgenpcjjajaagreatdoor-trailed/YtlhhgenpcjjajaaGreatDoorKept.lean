import Derived.WalkKit
import Derived.WalkSpells
import Derived.WalkLawsBesides
import Derived.Deep.Draws
import Derived.ArgAppend
import Derived.Laws.OwnMore
import Derived.LaidEqlPtr
import Derived.Deep.RegionLaw
import Derived.Lib.SliceRun
import Derived.Laws.IdiomCopy
import Derived.Shelf.RegionOpenPlain
import Derived.Lib.Overlaps
import Derived.Lib.AppendZerosOnto
import Derived.Laws.NewBlocks
import Derived.Laws.Externs
import Derived.Shelf.Spec.SlicesInsert
import Derived.RangeFuncNested
import Derived.RangeFuncBound
import Derived.RangeFuncCalls
import Derived.RangeFuncLeaves
import Derived.Shelf.Abstract
import Derived.Shelf.RegionOpen
import Derived.OwnWalkIn
import Derived.TacticsInMore
import Derived.LoopNIn
import Derived.LoopIn
import Derived.Maps.RangeRun
import Derived.Deep.RegionHeld3
import Derived.Deep.CutRange
import Derived.LaidEql
import Derived.Laws.IdiomStrings
import Derived.Laws.Concat
import Derived.Test.YtlhhgenpcjjajaaGreatDoorShelf
import Derived.Lib.ItoaMem
set_option linter.unusedSimpArgs false
set_option linter.unusedVariables false
set_option linter.defProp false
set_option maxHeartbeats 0
set_option maxRecDepth 100000
namespace Go.Proofs.YtlhhgenpcjjajaaGreatDoor
open Go.RowKit Tryz
def gr:=@Nat.le_refl
def jC:=@Nat.le_trans
def lz:=@Nat.lt_of_lt_of_le
def YZ:=@World.cell?_of_block
def iB:=@lt_of_block
def R3:=@List.eq_nil_of_length_eq_zero
def oD:=@World.ownsRow_nil
def QX:=@Sem.run_bind
def zF:=@List.map_cons
def gn:=@if_neg
def fU:=@if_pos
def EF:=@List.getElem?_take
def pE:=@run_underlying
def uJ:=@decide_eq_true
def vD:=@decide_eq_false
def tM:=@List.getElem_mem
def vB:=@wp_loop_rounds
def oj:=@rounds_succ
def sV:=@List.length_cons
def aap:=@List.take_succ_eq_append_getElem
def xD:=@Array.getElem?_eq_getElem
def jr:=@Option.some.inj
def tL:=@info_parts
def T1:=@List.getElem?_drop
def Ds:=@Nat.mul_one
def Jk:=@List.mem_of_mem_drop
def vw:=@List.append_assoc
def Kc:=@List.take_append_of_le_length
def Ml:=@List.take_take
def Pa:=@Nat.min_eq_left
def TZ:=@run_callFunc_extern
def Bd:=@List.take_of_length_le
def FT:=@List.drop_of_length_le
def Gt:=@List.append_nil
def rM:=@List.nil_append
def U5:=@run_copy_cells
def xH:=@Ne.symm
def tG:=@ownsRow_setCell_other
def rj:=@List.mem_cons_of_mem
def ZH:=@List.dropLast_eq_take
def pY:=@List.getElem?_eq_getElem
def rp:=@List.map_append
def tK:=@List.mem_of_getElem?
def MJ:=@List.reverse_append
def Uc:=@List.eq_nil_or_concat
def Uw:=@List.dropLast_concat
def nK:=@bodyPost_ret
def Gn:=@results_none
def p5:=@World.putObj_heap_other
def xC:=@List.size_toArray
def vZ:=@List.length_nil
def xn:=@Array.replicate_succ
def xj:=@Array.replicate_zero
def xm:=@List.push_toArray
def xI:=@List.append_toArray
def vz:=@List.cons_append
def Qo:=@List.getElem?_reverse
def IW:=@List.take_add_one
def sH:=@ByteArray.toList_eq
def XQ:=@List.findIdx_lt_length_of_exists
def ri:=@congrArg
def xa:=@World.size_alloc
def Pq:=@List.cons.injEq
def Qf:=@Array.size_setIfInBounds
def uM:=@Array.getElem?_setIfInBounds_ne
def JR:=@MapKept.run_getObj_map
def Uf:=@Array.getElem?_toList
def QY:=@List.filter_eq_nil_iff
def rl:=@Bool.and_eq_true
def IA:=@List.mem_filter
def Rk:=@Array.getD_eq_getD_getElem?
def LO:=@Array.getElem?_eq_none
def xl:=@List.mem_cons_self
def uX:=@List.getD_eq_getElem?_getD
def Mo:=@List.getElem?_append_left
def LR:=@List.all_eq_true
def DI:=@List.mem_range
def rL:=@Bool.false_eq_true
def uN:=@wp_region_any
def jE:=@wpOp_step
def Zl:=@List.length_eraseIdx_of_lt
def Bh:=@decide_eq_true_eq
def im:=@Nat.zero_le
def mq:=@Nat.lt_or_ge
abbrev fN:=ByteArray
abbrev fO:=World
abbrev gh:=Value
abbrev kZ:=List (ByteArray×ByteArray)
abbrev j5:=List (Option Nat)
abbrev iM:=Option Nat
abbrev jB:=Array Value
@[simp,go_sem] abbrev js:ByteArray:=⟨#[]⟩
@[simp,go_sem] abbrev BQ:ByteArray:=⟨#[10]⟩
@[simp,go_sem] abbrev lw:ByteArray:=⟨#[100,100]⟩
@[simp,go_sem] abbrev jx:ByteArray:=⟨#[100,105,118]⟩
@[simp,go_sem] abbrev qH:ByteArray:=⟨#[100,108]⟩
@[simp,go_sem] abbrev ld:ByteArray:=⟨#[100,116]⟩
@[simp,go_sem] abbrev gZ:ByteArray:=⟨#[102,111,114,109]⟩
@[simp,go_sem] abbrev ga:ByteArray:=⟨#[104,101,97,100]⟩
@[simp,go_sem] abbrev lj:ByteArray:=⟨#[104,105,100,100,101,110]⟩
@[simp,go_sem] abbrev sv:ByteArray:=⟨#[104,114]⟩
@[simp,go_sem] abbrev fy:ByteArray:=⟨#[104,116,109,108]⟩
@[simp,go_sem] abbrev lQ:ByteArray:=⟨#[104,49]⟩
@[simp,go_sem] abbrev lW:ByteArray:=⟨#[104,50]⟩
@[simp,go_sem] abbrev AG:ByteArray:=⟨#[105]⟩
@[simp,go_sem] abbrev tk:ByteArray:=⟨#[105,109,103]⟩
@[simp,go_sem] abbrev iK:ByteArray:=⟨#[105,110,112,117,116]⟩
@[simp,go_sem] abbrev kC:ByteArray:=⟨#[108,105]⟩
@[simp,go_sem] abbrev iC:ByteArray:=⟨#[109,101,116,97]⟩
@[simp,go_sem] abbrev nL:ByteArray:=⟨#[110,111,116,105,110,59]⟩
@[simp,go_sem] abbrev mT:ByteArray:=⟨#[110,111,116,105,110,69,59]⟩
@[simp,go_sem] abbrev nO:ByteArray:=⟨#[110,111,116,110,105,59]⟩
@[simp,go_sem] abbrev ib:ByteArray:=⟨#[110,111,98,114]⟩
@[simp,go_sem] abbrev fJ:ByteArray:=⟨#[111,112,116,103,114,111,117,112]⟩
@[simp,go_sem] abbrev fY:ByteArray:=⟨#[111,112,116,105,111,110]⟩
@[simp,go_sem] abbrev gw:ByteArray:=⟨#[111,98,106,101,99,116]⟩
@[simp,go_sem] abbrev mQ:ByteArray:=⟨#[112]⟩
@[simp,go_sem] abbrev mr:ByteArray:=⟨#[112,114,101]⟩
@[simp,go_sem] abbrev ig:ByteArray:=⟨#[115,101,108,101,99,116]⟩
@[simp,go_sem] abbrev gW:ByteArray:=⟨#[115,116,121,108,101]⟩
@[simp,go_sem] abbrev gG:ByteArray:=⟨#[116,100]⟩
@[simp,go_sem] abbrev iO:ByteArray:=⟨#[116,101,120,116,97,114,101,97]⟩
@[simp,go_sem] abbrev fF:ByteArray:=⟨#[116,102,111,111,116]⟩
@[simp,go_sem] abbrev gH:ByteArray:=⟨#[116,104]⟩
@[simp,go_sem] abbrev fG:ByteArray:=⟨#[116,104,101,97,100]⟩
@[simp,go_sem] abbrev pj:ByteArray:=⟨#[116,105,109,101,115]⟩
@[simp,go_sem] abbrev mP:ByteArray:=⟨#[116,105,109,101,115,98,59]⟩
@[simp,go_sem] abbrev iD:ByteArray:=⟨#[116,105,116,108,101]⟩
@[simp,go_sem] abbrev gq:ByteArray:=⟨#[116,114]⟩
@[simp,go_sem] abbrev nE:ByteArray:=⟨#[116,121,112,101]⟩
@[simp,go_sem] abbrev fC:ByteArray:=⟨#[116,97,98,108,101]⟩
@[simp,go_sem] abbrev fE:ByteArray:=⟨#[116,98,111,100,121]⟩
@[simp,go_sem] abbrev oz:ByteArray:=⟨#[117,108]⟩
@[simp,go_sem] abbrev sq:ByteArray:=⟨#[194,160]⟩
@[simp,go_sem] abbrev pw:ByteArray:=⟨#[226,139,185,204,184]⟩
@[simp,go_sem] abbrev lZ:ByteArray:=⟨#[32,9,10,12]⟩
@[simp,go_sem] abbrev iU:ByteArray:=⟨#[32,9,10,12,47,62]⟩
@[simp,go_sem] abbrev pu:ByteArray:=⟨#[32,9,10,12,47,62,61]⟩
@[simp,go_sem] abbrev lU:ByteArray:=⟨#[32,9,10,12,62]⟩
@[simp,go_sem] abbrev A4:ByteArray:=⟨#[33]⟩
@[simp,go_sem] abbrev gM:ByteArray:=⟨#[33,100,111,99,116,121,112,101]⟩
@[simp,go_sem] abbrev jF:ByteArray:=⟨#[33,45,45]⟩
@[simp,go_sem] abbrev oU:ByteArray:=⟨#[34]⟩
@[simp,go_sem] abbrev tH:ByteArray:=⟨#[38]⟩
@[simp,go_sem] abbrev qT:ByteArray:=⟨#[38,103,116,59]⟩
@[simp,go_sem] abbrev kV:ByteArray:=⟨#[38,108,116,59]⟩
@[simp,go_sem] abbrev mH:ByteArray:=⟨#[38,110,98,115,112,59]⟩
@[simp,go_sem] abbrev oy:ByteArray:=⟨#[38,113,117,111,116,59]⟩
@[simp,go_sem] abbrev jM:ByteArray:=⟨#[38,97,109,112,59]⟩
@[simp,go_sem] abbrev sJ:ByteArray:=⟨#[39]⟩
@[simp,go_sem] abbrev nT:ByteArray:=⟨#[45,45,62]⟩
@[simp,go_sem] abbrev yf:ByteArray:=⟨#[45,62]⟩
@[simp,go_sem] abbrev rn:ByteArray:=⟨#[47]⟩
@[simp,go_sem] abbrev pT:ByteArray:=⟨#[60]⟩
@[simp,go_sem] abbrev mw:ByteArray:=⟨#[60,33,45,45]⟩
@[simp,go_sem] abbrev ik:ByteArray:=⟨#[60,33,68,79,67,84,89,80,69,32]⟩
@[simp,go_sem] abbrev pH:ByteArray:=⟨#[60,47]⟩
@[simp,go_sem] abbrev yn:ByteArray:=⟨#[61,34]⟩
@[simp,go_sem] abbrev ir:ByteArray:=⟨#[62]⟩
@[simp,go_sem] abbrev lC:ByteArray:=⟨#[78,101,119,76,105,110,101,59]⟩
@[simp,go_sem] abbrev sS:ByteArray:=⟨#[97]⟩
@[simp,go_sem] abbrev Gk:ByteArray:=⟨#[98]⟩
@[simp,go_sem] abbrev fM:ByteArray:=⟨#[98,111,100,121]⟩
@[simp,go_sem] abbrev jk:ByteArray:=⟨#[98,114]⟩
@[simp,go_sem] abbrev gC:ByteArray:=⟨#[98,117,116,116,111,110]⟩
@[simp,go_sem] abbrev gu:ByteArray:=⟨#[99,111,108]⟩
@[simp,go_sem] abbrev fD:ByteArray:=⟨#[99,111,108,103,114,111,117,112]⟩
@[simp,go_sem] abbrev mN:ByteArray:=⟨#[99,111,112,121,115,114,59]⟩
@[simp,go_sem] abbrev fH:ByteArray:=⟨#[99,97,112,116,105,111,110]⟩
abbrev fW (b:Nat):Value:=.pointer (some ⟨b,0,none⟩)
abbrev jp (b k:Nat):Value:=.pointer (some ⟨b,k,none⟩)
abbrev fK (n:Int):Value:=.int .i64 n
abbrev gO (v:Value):Ending:=.returned v
abbrev oS:Ending:=.returned (.tuple #[])
abbrev mW (b n c:Nat):Value:=.slice (some ⟨b,0,none⟩) n c
abbrev iQ:Value:=.slice none 0 0
abbrev fV (c:Array Value) (t:TypeId):Obj:=.cells c t (0,0)
abbrev fR (s:ByteArray):Value:=.string s
section
variable {C c : jB} {E K S : List Nat} {L : List (fN×gh)} {T t tB : TypeId} {W a w w' w1 : fO} {ao : Option Addr} {av kv u v : gh} {b bB bD base bm bs cap e i j k : Nat} {name : fN} {p : fN->Bool} {iJ x : iM} {xs : j5} {z : Array Bool}
def fx {p : Prop} (h:p):Hid p:=h
structure Kept (S:List Nat) (w w':fO):Prop where
 os:w'.os=w.os
 tape:w'.tape=w.tape
 output:w'.output=w.output
 size:w.heap.size<=w'.heap.size
 block:∀k,k < w.heap.size->k∉S->w'.heap[k]?=w.heap[k]?
def Kept.refl (S:List Nat) (w:fO):Kept S w w:=⟨rfl,rfl,rfl,gr _,λ_ _ _=>rfl⟩
def Kept.trans {b c : fO} (h:Kept S a b) (k:Kept S b c):Kept S a c:=
 ⟨k.os.trans h.os,k.tape.trans h.tape,k.output.trans h.output,jC h.size k.size,λi d f=>(k.block i (lz d h.size) f).trans (h.block i d f)⟩
def Kept.mono {S' : List Nat} (h:Kept S w w') (l:∀k,k∈S->k < w.heap.size->k∈S'):Kept S' w w':=
 ⟨h.os,h.tape,h.output,h.size,λk d g=>h.block k d (λf=>g (l k f d))⟩
def Kept.next {S' : List Nat} {b c : fO} (h:Kept S a b) (k:Kept S' b c) (l:∀x∈S',x∈S\/a.heap.size<=x):Kept S a c:=
 ⟨k.os.trans h.os,k.tape.trans h.tape,k.output.trans h.output,jC h.size k.size,λi d f=>(k.block i (lz d h.size) (λg=>by grind)).trans (h.block i d f)⟩
def Kept.drew (h:Kept S a w):Kept S a w.drew:=⟨h.os,h.tape,h.output,h.size,h.block⟩
def Kept.drewN (h:Kept S a w) (q:Nat):Kept S a (w.drewN q):=⟨h.os,h.tape,h.output,h.size,h.block⟩
def Kept.alloc (h:Kept S a w) (o:Obj):Kept S a (w.alloc o):=
 ⟨h.os,h.tape,h.output,jC h.size (by simp),λk d f=>(Below.heap_alloc w o k (lz d h.size)).trans (h.block k d f)⟩
def Kept.setCell (h:Kept S a w) {p : Addr} (f:p.block∈S\/a.heap.size<=p.block) (u:gh):Kept S a (w.setCell p u):=
 ⟨h.os,h.tape,h.output,by simpa using h.size,λk g l=>by
  have d:k≠p.block:=by
   rintro rfl;rcases f with f|f
   .grind
   .omega
  exact(Below.heap_setCell w p u k d).trans (h.block k g l)⟩
def Kept.grown {d : iM} (h:Kept S a w) (f:w.grownBy w' d) (n:∀k,d=some k->k∈S\/a.heap.size<=k):Kept S a w':=
 ⟨f.os.trans h.os,f.tape.trans h.tape,f.output.trans h.output,jC h.size f.size,λk l o=>by
  have g:some k≠d:=by
   rintro rfl;rcases n k rfl with m|m
   .grind
   .omega
  exact(f.block k (lz l h.size) g).trans (h.block k l o)⟩
def Kept.below (h:Kept S w w') {B : Nat} (d:B<=w.heap.size) (l:∀k∈S,B<=k):Below B w w':=
 ⟨h.os,h.tape,h.output,h.size,λk f=>h.block k (lz f d) (λg=>by grind)⟩
def Kept.cell (h:Kept S w w') {p : Addr} (d:p.block < w.heap.size) (f:p.block∉S):w'.cell? p=w.cell? p:=YZ (w:=w) (h.block p.block d f)
def Kept.at (h:Kept S w w') {o : Obj} (d:w.heap[k]?=some o) (f:k∉S):w'.heap[k]?=some o:=
 (h.block k (iB d) f).trans d
def yI {a : Nat} {g l : jB} {d f : TypeId} {m n : Nat×Nat} (o:w.heap[a]?=some (.cells g d m)) (q:w.heap[b]?=some (.cells l f n)) (h:d≠f):a≠b:=by
 grind
def fB (w:fO) (o:Obj):(w.alloc o).heap[w.heap.size]?=some o:=by
 show(w.heap.push o)[w.heap.size]?=some o;simp
def Kept.ownsRow (h:Kept S w w') {e : TypeId} {d : Nat} {n : Nat} {xs : List gh} (q:w.ownsRow base e d v n xs) (s:∀k,v.ownBlock=some k->k∉S):w'.ownsRow base e d v n xs:=by
 have⟨h1,l⟩:=q;refine⟨h1,?_⟩;rcases l with l|⟨g,cap,f,rfl,m,o,r⟩
 .grind
 .exact .inr ⟨g,cap,f,rfl,m,(h.at o (s g rfl)),r⟩
section
variable {P:Program} (w:fO)
def jR {w:fO} {base d:Nat} {e:TypeId} {f:Nat} {v:gh} {n:Nat} {xs:List gh} (h:w.ownsRow base e f v n xs) (o:d<=base):w.ownsRow d e f v n xs:=by
 have⟨h1,m⟩:=h;refine⟨h1,?_⟩;rcases m with m|⟨g,cap,l,rfl,q,r⟩
 .grind
 .exact .inr ⟨g,cap,l,rfl,jC o q,r⟩
def Nb {w w':fO} {d:iM} (h:w.grownBy w' none):w.grownBy w' d:=⟨h.os,h.tape,h.output,h.size,λk f _=>h.block k f (by simp)⟩
def zX (base:Nat) (t N e:TypeId) (i:TypeInfo) (z:gh) (d h:Nat) (X:P.underlying t=some (.slice e)) (R:P.info? e=some i) (hz:i.zero=some z)
  (q:i.size=d) (H:i.bytes=h) (J:z.cells.size=d) (I:0 < d)
  (v:gh) (n:Nat) (xs:List gh) (l:w.ownsRow base e d v n xs)
  (a:Addr) (m c:Nat) (f:List gh) (V:f.length=m*d) (o:∀j u,f[j]?=some u->w.cell? (a.add j)=some u) (Z:∀u∈f,u.oneCell'=true)
  (D:n+m<=maxLen) (r:(n+m)*h<=140737488355328) (s:base<=w.heap.size):
  ∃y w',(Builtin.append_ #[t,t] N #[v,.slice (some a) m c]).run P w= .ok y w'/\w'.ownsRow base e d y (n+m) (xs++f)/\w.grownBy w' v.ownBlock/\
   (y.ownBlock=v.ownBlock\/∀k,y.ownBlock=some k->w.heap.size<=k):=by
 rcases l.2 with⟨rfl,rfl⟩|⟨g,cap,a0,rfl,a1,hg,a4,a2,a3,Y⟩
 .have hx:xs=[]:=R3 (by simpa using l.1);subst hx;have⟨y,w',hr,ho,hgr,_⟩:=run_append_own (P:=P) w w.heap.size t N e i z d h X R hz q H J I (iQ) 0 [] (oD _ _ _ _) a m c f V o Z D r (gr _);exact⟨y,w',hr,jR ho s,hgr,.inr λk U=>(ho.lt k U).1⟩
 .by_cases A:n+m<=cap
  .have⟨w',hr,ho,hgr⟩:=run_append_fits (P:=P) w base t N e i d X R q g n cap xs l a m c f V o Z A;exact⟨_,w',hr,ho,hgr,.inl rfl⟩
  .have⟨y,w',hr,ho,hgr⟩:=run_append_arg_grows (P:=P) w t N e i z d h X R hz q H J I ⟨g,0,none⟩ n cap xs l.1 (l.cells (g:=g) rfl) a m c f V o (by omega) D r;exact⟨y,w',hr,jR ho s,Nb hgr,.inr λk U=>(ho.lt k U).1⟩
def gQ {ops:Array Oper} {q:List Oper} {o:Oper} {a:Act} {Q:Exit->Act->fO->Prop} (R:o.guard=none) (s x:Operand) (t:TypeId)
  (ho:o.op= .call {callee:= .builtin .append,args:=#[s,x],argTypes:=#[t,t]})
  (base:Nat) (e:TypeId) (i:TypeInfo) (z:gh) (d g:Nat) (ht:P.underlying t=some (.slice e)) (Z:P.info? e=some i) (hz:i.zero=some z)
  (A:i.size=d) (N:i.bytes=g) (V:z.cells.size=d) (U:0 < d)
  (v:gh) (n:Nat) (xs:List gh) (hs:a.eval s=v) (H:w.ownsRow base e d v n xs)
  (I:Addr) (m c:Nat) (f:List gh) (hx:a.eval x= .slice (some I) m c) (hl:f.length=m*d) (y:∀j u,f[j]?=some u->w.cell? (I.add j)=some u) (X:∀u∈f,u.oneCell'=true)
  (J:n+m<=maxLen) (l:(n+m)*g<=140737488355328) (r:base<=w.heap.size)
  (h:∀D w',w'.ownsRow base e d D (n+m) (xs++f)->w.grownBy w' v.ownBlock->(D.ownBlock=v.ownBlock\/∀k,D.ownBlock=some k->w.heap.size<=k)->wpList P ops Q q (a.put o.dst D) w'):wpList P ops Q (o::q) a w:=by
 refine wpList_plain R λ_ Y=>?_;have⟨D,w',hr,h2,h3,h4⟩:=zX (P:=P) w base t o.type e i z d g ht Z hz A N V U v n xs H I m c f hl y X J l r;unfold Oper.wp execOp;simp only[ho,resolve,invoke,builtin,QX,Sem.run_pure,Result.andThen_ok,List.map_toArray,zF,List.map_nil,hs,hx,hr];exact Y _ _ (h D w' h2 h3 h4)
end
def kD (s:fN):List gh:=s.data.toList.map λb=>Value.int .u8 b.toNat
def aaA (s:fN):(kD s).length=s.size:=by
 simp[kD]
def KG (s t:fN):kD (s++t)=kD s++kD t:=by
 simp[kD]
def Tl (s:fN):∀u∈kD s,u.oneCell'=true:=by
 intro u d;simp[kD]at d;obtain⟨b,_,rfl⟩:=d;rfl
def fw (h:w.heap[b]?=some (fV c t)) (j:Nat):w.cell? ⟨b,j,none⟩=c[j]?:=by simp[World.cell?,h]
def fA (h:w.heap[b]?=some (fV c t)) (j:Nat):w.frozen? ⟨b,j,none⟩=false:=by simp[World.frozen?,h]
def fI (h:w.heap[b]?=some (fV c t)) (j:Nat) (u:gh):(w.setCell ⟨b,j,none⟩ u).heap[b]?=some (fV (c.setIfInBounds j u) t):=by
 have d:=iB h;simp only[World.setCell]
 grind
def fS {e : TypeId} {d : Nat} {n : Nat} {xs : List gh} (h:w.ownsRow base e d v n xs):∃ao cap,v= .slice ao n cap:=by
 rcases h.2 with⟨rfl,l⟩|⟨g,cap,f,rfl,_⟩
 all_goals grind
def iT (g j:Nat):(⟨g,0,none⟩:Addr).add j=⟨g,j,none⟩:=by unfold Addr.add;grind
def ptr (x:iM):Option Addr:=x.map λk=>⟨k,0,none⟩
abbrev kK (x:iM):gh:= .pointer (ptr x)
def gU (xs:j5) (n:Int):iM:=if 0<=n/\n < xs.length then xs.getD n.toNat none else none
structure xo (base b j:Nat) (tB:TypeId) (C:jB) (v:gh) (xs:j5) (w:fO):Prop where
 gR:w.heap[b]?=some (fV C tB)
 cell:C[j]?=some v
 row:w.ownsRow base 72 1 v xs.length (xs.map kK)
 ne:tB≠72
 le:xs.length<=4096
def xo.at (h:xo base b j tB C v xs w):w.cell? ⟨b,j,none⟩=some v:=by rw[fw h.gR];exact h.cell
def adk (base b j:Nat) (tB:TypeId) (C:jB) (v:gh) (xs:j5) (w:fO) (h:xo base b j tB C v xs w):
  Calls prog 269 #[jp b j] w λe w'=>e=gO (fK xs.length)/\w'=w:=by
 have d:=h.at;obtain⟨ao,cap,rfl⟩:=fS h.row;have H:=fx h;clear h;go_enter func269,ntmps269;go_wp2;go_ret;simp
def Ze (base b j:Nat) (tB:TypeId) (C:jB) (v:gh) (xs:j5) (n:Int) (w:fO) (h:xo base b j tB C v xs w):
  Calls prog 248 #[jp b j,fK n] w λe w'=>e=gO (kK (gU xs n))/\w'=w:=by
 have s:=h.at;have q:=h.le
 by_cases D:n < 0
 .obtain⟨ao,cap,rfl⟩:=fS h.row;have l:gU xs n=none:=by unfold gU;rw[gn (by omega)]
  rw[l];go_enter func248,ntmps248;go_wp2;go_ret;exact⟨rfl,rfl⟩
 by_cases H:(xs.length:Int)<=n
 .obtain⟨ao,cap,rfl⟩:=fS h.row;have l:gU xs n=none:=by unfold gU;rw[gn (by omega)]
  rw[l];go_enter func248,ntmps248;go_wp2;go_ret;exact⟨rfl,rfl⟩
 obtain⟨k,rfl⟩:∃k:Nat,n=k:=⟨n.toNat,by omega⟩;have o:k < xs.length:=by omega
 have l:gU xs k=xs[k]:=by unfold gU;rw[fU (by omega)];simp[o]
 rw[l];rcases h.row.2 with⟨_,A⟩|⟨g,cap,m,rfl,_,f,r,_,_,d⟩
 .omega
 have y:w.cell? ⟨g,k,none⟩=some (kK xs[k]):=by
  rw[fw f];have:(m.toList.take (xs.length*1))[k]?=some (kK xs[k]):=by rw[d];simp[o]
  rw[EF]at this;split at this
  .grind
  .omega
 go_enter func248,ntmps248;go_wp2;go_ret;simp
def posOf (xs:j5) (x:iM):Int:=if xs.idxOf x < xs.length then (xs.idxOf x:Int)else -1
def tE (w:fO) (x:iM):Prop:=∀k,x=some k->∃c,w.heap[k]?=some (fV c 140)
def U8:(prog.info? 140).map (·.size)=some 4:=by kernel_rfl
def IZ:prog.underlying 72=some (.pointer (prog.pointee 72)):=by kernel_rfl
def C7 {y : iM} (l:tE w x) (m:tE w y):
  (binOp .eql 72 (.pointer (ptr x)) (.pointer (ptr y))).run prog w= .ok (.bool (decide (x=y))) w:=by
 obtain⟨j,f,g⟩:=Option.map_eq_some_iff.1 U8;cases x with
 |none=>
  cases y with
  |none=>exact run_eql_pointer_nil (P:=prog) w 72 none IZ
  |some b=>
   have h:∀d:Nat,(Op.equalIn (d+1) 72 (.pointer none) (fW b)).run prog w= .ok false w:=λd=>by
    simp[Op.equalIn,pE underlying72]
   show(binOp .eql 72 (.pointer none) (fW b)).run prog w= .ok (.bool false) w;simp only[binOp];simp[Op.equal,Op.maxDepth,h 9999]
 |some a=>
  cases y with
  |none=>exact run_eql_pointer_nil (P:=prog) w 72 (some ⟨a,0,none⟩) IZ
  |some b=>
   by_cases h:a=b
   .subst h;rw[uJ rfl];exact run_eql_ptr_same (P:=prog) w (⟨a,0,none⟩:Addr) underlying72 f
   .have⟨ca,ha⟩:=l a rfl;have⟨cb,hb⟩:=m b rfl;rw[vD (by grind)];exact run_eql_ptr_other (P:=prog) w (a:=⟨a,0,none⟩) (b:=⟨b,0,none⟩) underlying72 f (by omega) (by simp) ha hb
def aeB (v:gh) (xs:j5) (w:fO):Prop:=((xs=[]/\∃ao cap,v= .slice ao 0 cap)\/∃g cap,v=mW g xs.length cap/\∀k,(hk:k < xs.length)->w.cell? ⟨g,k,none⟩=some (kK xs[k]))/\∀x∈xs,tE w x
def ab4 (o:w.ownsRow base 72 1 v xs.length (xs.map kK)) (l:∀x∈xs,tE w x):aeB v xs w:=by
 refine⟨?_,l⟩;rcases o.2 with⟨rfl,q⟩|⟨g,cap,h,rfl,_,f,n,_,_,d⟩
 .grind
 .refine .inr ⟨g,cap,rfl,λk m=>?_⟩;rw[fw f];have:(h.toList.take (xs.length*1))[k]?=some (kK xs[k]):=by rw[d];simp[m]
  grind
def Yb (h:k < xs.length) (o:xs[k]=x) (f:∀j,j < k->xs[j]?≠some x):posOf xs x=k:=by
 have q:xs.idxOf x=k:=by
  have n:x∈xs:=o▸tM h;have m:=List.idxOf_lt_length_iff.2 n;have g:¬xs.idxOf x < k:=λd=>f _ d (by grind);have l:¬k < xs.idxOf x:=λd=>by
   have:=List.not_of_lt_findIdx (p:=(·==x)) (xs:=xs) (i:=k) (by simpa [List.idxOf]using d)
   grind
  omega
 grind[posOf]
def Zn (d:∀j,j < xs.length->xs[j]?≠some x):posOf xs x= -1:=by
 grind[posOf]
def EU (v:gh) (xs:j5) (x:iM) (w:fO) (h:aeB v xs w) (m:tE w x) (N:xs.length<=4096):
  Calls prog 272 #[v,kK x] w λe w'=>e=gO (fK (posOf xs x))/\w'=w:=by
 rcases h with⟨⟨rfl,ao,cap,rfl⟩|⟨g,cap,rfl,r⟩,A⟩
 .go_enter func272,ntmps272;go_wp2;refine vB 1 ?_;rw[oj];go_wp2;go_ret;simp[posOf]
 .have y:=r;have H:=m;clear r m;have l:∀k,(n:k < xs.length)->(binOp .eql 72 (.pointer (ptr x)) (.pointer (ptr xs[k]))).run prog w= .ok (.bool (decide (x=xs[k]))) w:=λk n=>C7 H (A _ (tM n));have D:=fx l;clear l;go_enter func272,ntmps272;go_wp2
  go_loopw [8] (λi wr=>∃k:Nat,k<=xs.length/\i=fK k/\wr=w/\∀j,j < k->xs[j]?≠some x) (λi _=>xs.length - (intOf i).toNat)
  case atStart=>grind
  case round=>
   obtain⟨k,n,rfl,rfl,q⟩:=hrel
   by_cases d:k < xs.length
   .have R:=y k d;have s:=D k d
    by_cases f:x=xs[k]
    .have o:=fx (Yb d f.symm q);rw[uJ f]at s;clear f;go_wp2;go_ret;exact⟨by rw[o.out];rfl,rfl⟩
    .rw[vD f]at s;have I:=f;clear f;go_wp2;go_roundw
     case rel=>
      refine⟨k+1,by omega,by go_num,by simp,λj J=>?_⟩
      grind
     case measure=>simp[intOf];omega
   .have o:=fx (Zn (xs:=xs) (x:=x) (λj J=>q j (by omega)));go_wp2;go_ret;exact⟨by rw[o.out];rfl,rfl⟩
def iY:jB->Nat->List gh->jB
 |c,_,[]=>c
 |c,o,v::r=>iY (c.setIfInBounds o v) (o+1) r
def jd:∀(d:List gh) (c:jB) (o:Nat),(iY c o d).size=c.size
 |[],_,_=>rfl
 |v::r,c,o=>by rw[iY,jd r];simp
def jX:∀(d:List gh) (c:jB) (o:Nat),o+d.length<=c.size->(iY c o d).toList=c.toList.take o++d++c.toList.drop (o+d.length)
 |[],c,o,_=>by simp[iY]
 |v::r,c,o,h=>by
  have f:o+1+r.length<=(c.setIfInBounds o v).size:=by simp at h|-;omega
  rw[iY,jX r _ _ f];simp only[sV]at h;have e1:(c.setIfInBounds o v).toList=c.toList.set o v:=by simp
  rw[e1];have g:o < c.toList.length:=by simp;omega
  rw[aap (by grind),List.take_set_of_le (gr _),List.drop_set_of_lt (by omega)]
  grind
def jW:∀(d:List gh) (w:fO) (g:Nat) (c:jB) (t:TypeId) (m:Nat×Nat) (o:Nat),w.heap[g]?=some (.cells c t m)->(w.setCells g o d).heap[g]?=some (.cells (iY c o d) t m)
 |[],_,_,_,_,_,_,h=>h
 |v::r,w,g,c,t,m,o,h=>by
  rw[World.setCells,iY];refine jW r _ g _ t m (o+1) ?_;have f:=iB h;rw[xD f]at h;have l:=jr h;simp only[World.setCell]
  grind
def Kept.setCells (d:b∈S\/a.heap.size<=b):∀(f:List gh) (o:Nat) {w:fO},Kept S a w->Kept S a (w.setCells b o f)
 |[],_,_,h=>h
 |v::r,o,w,h=>by rw[World.setCells];exact Kept.setCells d r (o+1) (h.setCell (p:=⟨b,o,none⟩) d v)
def aaX:(prog.info? 72).map (λi=>(i.zero,i.size,i.bytes))=some (some (.pointer none),1,8):=by kernel_rfl
def ZE {l : List gh} {n : Nat} (d:i < j) (f:j<=n) (g:n<=l.length):
  ((l.take i++(l.take n).drop j++l.drop (i+(n - j))).take (n - (j - i)))=(l.take n).take i++(l.take n).drop j:=by
 have e:(l.take i++(l.take n).drop j).length=n - (j - i):=by simp;omega
 grind
def adz (g cap i j n:Nat) (f:jB) (w:fO) (o:w.heap[g]?=some (fV f 72)) (a4:n<=cap) (X:f.size=cap) (hi:i < j) (hj:j<=n) (a3:n<=4096)
  (h1:∀u∈f.toList.take n,u.oneCell'=true):
  Calls prog 273 #[mW g n cap,fK i,fK j] w λe w'=>e=gO (mW g (n - (j - i)) cap)/\
   ∃q,w'.heap[g]?=some (fV q 72)/\q.size=cap/\q.toList.take (n - (j - i))=(f.toList.take n).take i++(f.toList.take n).drop j/\Kept [g] w w':=by
 obtain⟨i0,R,a5,Z,a6⟩:=tL aaX;obtain⟨d,m⟩:∃d,d=(f.toList.take n).drop j:=⟨_,rfl⟩;have r:d.length=n - j:=by rw[m];simp;omega
 have I:∀t u,d[t]?=some u->f[j+t]?=some u:=by
  intro t u D;rw[m,T1,EF]at D;split at D
  .grind
  .cases D
 obtain⟨A,hA,J⟩:∃A:Addr,(if cap=j then some (⟨g,0,none⟩:Addr)else some ⟨g,j,none⟩)=some A/\Hid (∀t u,d[t]?=some u->w.drew.cell? (A.add t)=some u):=by
  by_cases h:cap=j
  .refine⟨⟨g,0,none⟩,by simp[h],λt u D=>?_⟩
   grind
  .refine⟨⟨g,j,none⟩,by simp[h],λt u D=>?_⟩;rw[show(⟨g,j,none⟩:Addr).add t=⟨g,j+t,none⟩from by unfold Addr.add;simp];exact(fw o _).trans (I t u D)
 have s1:Hid (d.length=(n - j)*1):=by rw[Ds];exact r
 have s2:Hid (∀u∈d,u.oneCell'=true):=λu D=>h1 u (Jk (m▸D));have s3:Hid (∀t,t < d.length->(w.drew.cell? ⟨g,0+i*1+t,none⟩).isSome=true/\w.drew.frozen? ⟨g,0+i*1+t,none⟩=false):=by
  intro t Y;rw[r]at Y;refine⟨?_,fA o _⟩;show(w.cell? _).isSome=true;rw[fw o,xD (by omega)];rfl
 obtain⟨y,s⟩:∃y,y=w.drew.setCells g (0+i*1) d:=⟨_,rfl⟩;have H:y.heap[g]?=some (fV (iY f (0+i*1) d) 72):=by rw[s];exact jW d w.drew g f _ _ _ o
 have N:Kept [g] w y:=by rw[s];exact Kept.setCells (.inl (by simp)) d _ (Kept.refl _ _).drew
 have a0:∀ty,(Builtin.clear_ #[174] ty #[.slice (some ⟨g,i+(n - j),none⟩) (n - (i+(n - j))) (cap - (i+(n - j)))]).run prog y= .ok (.tuple #[]) (y.setCells g (i+(n - j)) (List.replicate (n - (i+(n - j))) (.pointer none))):=
  λty=>Lib.run_clear_slice y _ _ ty _ underlying174 Tryz.zeroValue72 rfl rfl g (i+(n - j)) _ _ (by omega) (λt Y=>by rw[fw H,xD (by rw[jd];omega)];rfl) (λt Y=>fA H _)
 have HB:=jW (List.replicate (n - (i+(n - j))) (Value.pointer none)) y g _ _ _ (i+(n - j)) H;have HK:=Kept.setCells (S:=[g]) (a:=w) (b:=g) (.inl (by simp)) (List.replicate (n - (i+(n - j))) (Value.pointer none)) (i+(n - j)) N;have U:(iY f (0+i*1) d).toList=f.toList.take (0+i*1)++d++f.toList.drop (0+i*1+d.length):=jX _ _ _ (by omega);have V:=jX (List.replicate (n - (i+(n - j))) (Value.pointer none)) (iY f (0+i*1) d) (i+(n - j)) (by rw[jd];grind);have HF:(iY (iY f (0+i*1) d) (i+(n - j)) (List.replicate (n - (i+(n - j))) (Value.pointer none))).toList.take (n - (j - i))=(f.toList.take n).take i++(f.toList.take n).drop j:=by
  rw[V,vw,Kc (by simp[jd];omega),U,r,m];rw[Ml,Pa (by omega)];have:=ZE (l:=f.toList) hi hj (by grind)
  simpa using this
 have HW:=fx s;have a1:i<=cap:=by omega
 have a2:j<=cap:=by omega
 clear s;go_enter func273,ntmps273;go_wp2_with fail
 go_region_law (refine step_append_room rfl (.tmp 22) (.tmp 25) 174 rfl 72 i0 1 underlying174 R Z g 0 i cap (by simp[Act.eval,Act.put]) A (n - j) (cap - j) d (by simp[Act.eval,Act.put]) s1 J s2 (by omega) s3 ?_;rw[<-HW.out])
 go_wp2;go_ret;exact⟨by rw[show n - (j - i)=i+(n - j) by omega];rfl,_,HB,by rw[jd,jd];exact X,HF,HK⟩
def adX:(prog.info? 72).map (λi=>(i.zero,i.size,i.bytes))=some (some (.pointer none),1,8):=by kernel_rfl
def IK (T S F O B:Nat) (z:gh):Prop:=(T=72/\S=174/\F=387/\O=389/\B=8/\z= .pointer none)\/(T=142/\S=138/\F=266/\O=319/\B=16/\z= .nilIface)
section
variable {T S F O B:Nat} {z:gh}
def IK.ZQ (K:IK T S F O B z):(prog.info? T).map (λi=>(i.zero,i.size,i.bytes))=some (some z,1,B)/\prog.underlying S=some (.slice T)/\(prog.info? T).map (·.size)=some 1/\(∀w,(sizeOf T).run prog w= .ok 1 w)/\∀a w,(callFunc O a).run prog w=((Extern.SlicesOverlaps.overlaps #[S,S] #[4] a).run prog w).andThen λv w'=> .ok (.value v) w':=by
 rcases K with⟨rfl,rfl,rfl,rfl,rfl,rfl⟩|⟨rfl,rfl,rfl,rfl,rfl,rfl⟩
 .exact⟨by kernel_rfl,underlying174,by kernel_rfl,Tryz.sizeOf72,TZ func389 (by kernel_rfl) (by kernel_rfl) (by kernel_rfl) (by kernel_rfl)⟩
 .exact⟨by kernel_rfl,underlying138,by kernel_rfl,Tryz.sizeOf142,TZ func319 (by kernel_rfl) (by kernel_rfl) (by kernel_rfl) (by kernel_rfl)⟩
def YY (T base:Nat) (v:gh) (n i:Nat) (xs:List gh) (u:gh) (w:fO) (e:Ending) (w':fO):Prop:=
 ∃d,e=gO d/\w'.ownsRow base T 1 d (n+1) (xs.take i++[u]++xs.drop i)/\Kept v.ownBlock.toList w w'/\(d.ownBlock=v.ownBlock\/∀k,d.ownBlock=some k->w.heap.size<=k)
def Vk (K:IK T S F O B z) (base n r:Nat) (v u:gh) (xs:List gh) (w:fO) (g:w.ownsRow base T 1 v n xs) (R:w.heap[r]?=some (fV #[u] T)) (hu:u.oneCell'=true) (Z:n<=1048576) (I:base<=w.heap.size):
  Calls prog F #[v,fK n,mW r 1 1] w (YY T base v n n xs u w):=by
 obtain⟨U,J,m,o,q⟩:=tL K.ZQ.1;have D:=K.ZQ.2.1;obtain⟨ao,cap,rfl⟩:=fS g;have N:xs.length=n:=by have:=g.1;omega
 have H:=fx R;clear R;rcases K with⟨rfl,rfl,rfl,rfl,rfl,rfl⟩|⟨rfl,rfl,rfl,rfl,rfl,rfl⟩
 all_goals
  by_cases y:cap=n
  subst y;have s:=fx g;clear g
  first|go_enter func387,ntmps387|go_enter func266,ntmps266
  go_wp2_with (at_builtin;refine gQ _ rfl _ _ _ rfl base _ U _ 1 _ D J m o q rfl (by decide) (.slice ao cap cap) cap xs rfl s ⟨r,0,none⟩ 1 1 [u] rfl rfl (λj x l=>by rw[iT,fw H.out,<-l];simp) (λx l=>by grind) (by unfold maxLen;omega) (by omega) I ?_;intro v' w2 f d h);have A:=(Kept.refl (Value.slice ao cap cap).ownBlock.toList w).grown d (λk Y=> .inl (by grind))
  rotate_left
  have s:=fx g;clear g
  first|go_enter func387,ntmps387|go_enter func266,ntmps266
  go_wp2_with (at_builtin;refine gQ _ rfl _ _ _ rfl base _ U _ 1 _ D J m o q rfl (by decide) (.slice ao n cap) n xs rfl s ⟨r,0,none⟩ 1 1 [u] rfl rfl (λj x l=>by rw[iT,fw H.out,<-l];simp) (λx l=>by grind) (by unfold maxLen;omega) (by omega) I ?_;intro v' w2 f d h);have A:=(Kept.refl (Value.slice ao n cap).ownBlock.toList w).grown d (λk Y=> .inl (by grind))
  all_goals
   have X:=f;have V:=h;go_wp2;go_ret;refine⟨_,rfl,?_,A,V⟩;rw[Bd (by omega),FT (by omega),Gt];exact X
def Tz {l:List gh} {n i:Nat} {u:gh} {c:jB} (d:c.toList.take n=l) (m:n+1<=c.size) (h:i < n):
  (iY (iY c (i+1) (l.drop i)) i [u]).toList.take (n+1)=l.take i++[u]++l.drop i:=by
 have g:l.length=n:=by rw[<-d];simp;omega
 have f:=jX (l.drop i) c (i+1) (by grind);rw[jX [u] _ i (by rw[jd];grind),f];have e1:(c.toList.take (i+1)++l.drop i++c.toList.drop (i+1+(l.drop i).length)).take i=l.take i:=by
  rw[vw,Kc (by grind),Ml,Pa (by omega),<-d,Ml,Pa (by omega)]
 have e2:(c.toList.take (i+1)++l.drop i++c.toList.drop (i+1+(l.drop i).length)).drop (i+[u].length)=l.drop i++c.toList.drop (i+1+(l.drop i).length):=by
  rw[vw,List.drop_append_of_le_length (by grind),FT (by grind),rM]
 rw[e1,e2,<-vw,Kc (by grind),Bd (by grind)]
def Rn (K:IK T S F O B z) (base g cap n i o:Nat) (u:gh) (f:jB) (xs:List gh) (w:fO) (Y:base<=g) (d:w.heap[g]?=some (fV f T)) (y:f.toList.take n=xs) (a3:f.size=cap) (hm:cap<=maxLen)
  (a2:n+1<=cap) (hi:i < n) (R:w.heap[o]?=some (fV #[u] T)) (a0:o≠g) (hu:u.oneCell'=true) (h1:∀x∈xs,x.oneCell'=true) (aa:n<=1048576):
  Calls prog F #[mW g n cap,fK i,mW o 1 1] w (YY T base (mW g n cap) n i xs u w):=by
 have J:xs.length=n:=by rw[<-y];simp;omega
 obtain⟨_,V,U,HZ,HP⟩:=K.ZQ;have a1:∀lb X,(callFunc O #[mW o 1 1,.slice (some ⟨g,i+1,none⟩) lb X]).run prog w= .ok (.value (.bool false)) w:=λlb X=>by
  rw[HP,Lib.run_overlaps_apart w S 4 T V 1 HZ ⟨o,0,none⟩ ⟨g,i+1,none⟩ 1 1 lb X a0 T T 1 cap (by simp[World.shape?,R]) (by simp[World.shape?,d,a3]) (by omega) (fA R 0) (fA R 1)];rfl
 have N:∀j,j < cap->(w.cell? ⟨g,j,none⟩).isSome=true:=λj q=>by rw[fw d,xD (by omega)];rfl
 have Z:∀j x,xs[j]?=some x->w.cell? ⟨g,j,none⟩=some x:=λj x q=>by
  rw[fw d]
  grind
 have a9:(xs.drop i).length=n - i:=by rw[List.length_drop,J]
 obtain⟨h,m⟩:∃h,h=w.drew.setCells g (i+1) (xs.drop i):=⟨_,rfl⟩;have H:∀A r sc,(Builtin.copy_ #[S,S] A #[.slice (some ⟨g,i+1,none⟩) (n - i) r,.slice (some ⟨g,i,none⟩) (n+1 - i) sc]).run prog w.drew= .ok (goInt (xs.drop i).length) h:=λA r sc=>by
  rw[m];exact U5 w.drew _ _ A T g (i+1) (n - i) r ⟨g,i,none⟩ (n+1 - i) sc (xs.drop i) V U (by grind)
   (λj x q=>by rw[Addr.add_lit];simp_all)
   (λj q=>N _ (by omega)) (λj q=>fA d _) (λx hx=>h1 x (Jk hx))
 have l:h.heap[g]?=some (fV (iY f (i+1) (xs.drop i)) T):=by rw[m];exact jW (xs.drop i) w.drew g f _ _ _ d
 have s:Kept [g] w h:=by rw[m];exact Kept.setCells (.inl (by simp)) _ _ (Kept.refl _ _).drew
 have D:h.heap[o]?=some (fV #[u] T):=s.at R (by grind);have I:∀A r,(Builtin.copy_ #[S,S] A #[.slice (some ⟨g,i,none⟩) (n+1 - i) r,mW o 1 1]).run prog h= .ok (goInt 1) (h.setCells g i [u]):=λA r=>
  U5 h _ _ A T g i (n+1 - i) r ⟨o,0,none⟩ 1 1 [u] V U (by grind)
   (λj x q=>by rw[iT,fw D,<-q];simp)
   (λj q=>by rw[fw l,xD (by rw[jd];grind)];rfl) (λj q=>fA l _) (λx hx=>by grind)
 have HB:=jW [u] h g _ _ _ i l;have HK:=Kept.setCells (S:=[g]) (a:=w) (b:=g) (.inl (by simp)) [u] i s;have HF:=Tz (u:=u) y (by omega:n+1<=f.size) hi;clear l s m d R D h1 N Z y;have ac:IntKind.i64.wrap ((i:Int)+1)=(i:Int)+1:=by rw[IntKind.wrap_i64];omega
 have a4:(0:Int)<=(i:Int)+1:=by omega
 have a5:(i:Int)+1<=(n:Int)+1:=by omega
 have ab:((i:Int)+1).toNat=i+1:=by omega
 have a6:(i:Int)<=(n:Int)+1:=by omega
 have a7:¬(cap=i+1):=by omega
 have a8:¬(cap=i):=by omega
 rcases K with⟨rfl,rfl,rfl,rfl,rfl,rfl⟩|⟨rfl,rfl,rfl,rfl,rfl,rfl⟩
 all_goals
  first|go_enter func387,ntmps387|go_enter func266,ntmps266
  go_wp2_with (simp only[a1])
  go_region_law (refine step_copy_runI rfl _ _ _ _ rfl _ _ (by simp[Act.eval,Act.put]) (by simp[Act.eval,Act.put]) (H _ _ _) ?_)
  go_wp2_with (at_builtin;refine wpList_copy_runI _ rfl _ _ _ _ rfl _ _ rfl rfl (I _ _) ?_);go_ret;exact⟨_,rfl,⟨by grind,.inr ⟨g,cap,_,rfl,Y,HB,by omega,hm,by rw[jd,jd];omega,by grind⟩⟩,HK,.inl rfl⟩
def Pf {l:List gh} {n i:Nat} {u:gh} {R:jB} (h:l.length=n) (g:R.toList.take i=l.take i) (o:n+1<=R.size) (m:i < n):
  (iY (iY R i [u]) (i+1) (l.drop i)).toList.take (n+1)=l.take i++[u]++l.drop i:=by
 have f:=jX [u] R i (by grind);rw[jX (l.drop i) _ (i+1) (by grind[iY]),f,g];have d:∀X:List gh,(l.take i++[u]++X).take (i+1)=l.take i++[u]:=λX=>by grind
 rw[d,Kc (by grind),Bd (by grind)]
def Ta (K:IK T S F O B z) (base g cap n i bv:Nat) (u:gh) (D:jB) (xs:List gh) (w:fO) (d:w.heap[g]?=some (fV D T)) (a1:D.toList.take n=xs) (am:D.size=cap)
  (al:n<=cap) (a9:cap < n+1) (hi:i < n) (hv:w.heap[bv]?=some (fV #[u] T)) (hu:u.oneCell'=true) (h1:∀x∈xs,x.oneCell'=true) (ak:n<=1048576) (hb:base<=w.heap.size):
  Calls prog F #[mW g n cap,fK i,mW bv 1 1] w (YY T base (mW g n cap) n i xs u w):=by
 obtain⟨i0,a8,ab,ac,a3⟩:=tL K.ZQ.1;obtain rfl:cap=n:=by omega
 have a0:xs.length=cap:=by rw[<-a1];simp;omega
 obtain⟨_,HU,a2,HZ,HP⟩:=K.ZQ;have aj:=iB d;have ap:=iB hv;have Z:∀j x,xs[j]?=some x->w.cell? ⟨g,j,none⟩=some x:=λj x y=>by
  rw[fw d]
  grind
 have A:(Builtin.firstCells i0.size i (mW g i cap)).run prog w.drew= .ok (xs.take i).toArray w.drew:=by
  rw[ac];exact run_firstCells_some w.drew 1 i ⟨g,0,none⟩ i cap (xs.take i) (by grind) (λj x y=>by
   rw[iT];rw[EF]at y
   simp_all)
 obtain⟨G,hG⟩:∃G,G=grownCap w (cap+1) cap T:=⟨_,rfl⟩;obtain⟨R,hR⟩:∃R:jB,R=(xs.take i).toArray++Builtin.zeroCells z.cells (cap+1 - i)++Builtin.zeroCells z.cells (G - (cap+1)):=⟨_,rfl⟩;obtain⟨m,J⟩:∃m,m=w.drew.alloc (fV R T):=⟨_,rfl⟩;have aa:∀f,(Builtin.append_ #[S,3] f #[mW g i cap,fK ((cap:Int)+1 - (i:Int))]).run prog w= .ok (mW w.heap.size (cap+1) G) m:=λf=>by
  have h:=Lib.run_append_grow_zeros w S 3 f T i0 _ .i64 .i64 HU underlying3 a8 ab (some ⟨g,0,none⟩) i cap (xs.take i) A (cap+1 - i) (by omega) (by omega) (by omega) (by omega) (by rw[a3];rcases K with⟨_,_,_,_,rfl,_⟩|⟨_,_,_,_,rfl,_⟩<;>omega) (by rw[a3,show i+(cap+1 - i)=cap+1 by omega];rcases K with⟨_,_,_,_,rfl,_⟩|⟨_,_,_,_,rfl,_⟩<;>exact growslice_fits (by omega) (by omega))
  grind
 have a7:cap+1<=G:=by rw[hG];exact grownCap_ge w _ _ _
 have a4:G<=maxLen:=by rw[hG];exact grownCap_le_maxLen w (cap+1) cap T (by unfold maxLen;omega)
 have a5:R.size=G:=by
  rw[hR];rcases K with⟨_,_,_,_,_,rfl⟩|⟨_,_,_,_,_,rfl⟩<;>simp[Builtin.zeroCells,Value.cells]<;>omega
 have U:R.toList.take i=xs.take i:=by
  rw[hR];simp only[Array.toList_append,vw];rw[Kc (by grind),Bd (by grind)]
 have o:m.heap[w.heap.size]?=some (fV R T):=by rw[J];exact fB w.drew _
 have r:Kept [] w m:=by rw[J];exact(Kept.refl [] w).drew.alloc _
 have V:=r.at hv (by simp);have a6:=r.at d (by simp);obtain⟨l,s⟩:∃l,l=m.setCells w.heap.size i [u]:=⟨_,rfl⟩;have X:∀f H,(Builtin.copy_ #[S,S] f #[.slice (some ⟨w.heap.size,i,none⟩) (cap+1 - i) H,mW bv 1 1]).run prog m= .ok (goInt 1) l:=λf H=>by
  rw[s];exact U5 m _ _ f T w.heap.size i (cap+1 - i) H ⟨bv,0,none⟩ 1 1 [u] HU a2 (by grind)
   (λj x y=>by rw[iT,fw V,<-y];simp)
   (λj y=>by rw[fw o,xD (by grind)];rfl) (λj y=>fA o _) (λx hx=>by grind)
 have q:l.heap[w.heap.size]?=some (fV (iY R i [u]) T):=by rw[s];exact jW [u] m _ R _ _ _ o
 have I:Kept [] w l:=by rw[s];exact Kept.setCells (.inr (gr _)) _ _ r
 have N:=I.at d (by simp);have Y:∀f H sc,(Builtin.copy_ #[S,S] f #[.slice (some ⟨w.heap.size,i+1,none⟩) (cap - i) H,.slice (some ⟨g,i,none⟩) (cap - i) sc]).run prog l.drew= .ok (goInt (xs.drop i).length) (l.drew.setCells w.heap.size (i+1) (xs.drop i)):=λf H sc=>
  U5 l.drew _ _ f T w.heap.size (i+1) (cap - i) H ⟨g,i,none⟩ (cap - i) sc (xs.drop i) HU a2 (by grind)
   (λj x y=>by
    rw[Addr.add_lit];have h3:=Z (i+j) x (by grind);rw[fw d]at h3;exact(fw N _).trans h3)
   (λj y=>by show(l.cell? _).isSome=true;rw[fw q,xD (by grind[iY])];rfl) (λj y=>fA q _) (λx hx=>h1 x (Jk hx))
 have HB:=jW (xs.drop i) l.drew w.heap.size _ _ _ (i+1) q;have HK:=Kept.setCells (S:=[]) (a:=w) (b:=w.heap.size) (.inr (gr _)) (xs.drop i) (i+1) I.drew;have HF:=Pf (u:=u) a0 U (by omega) hi;have ar:(cap:Int) < (cap:Int)+1:=by omega
 have ae:¬(G=i):=by omega
 have ad:¬(G=i+1):=by omega
 have ai:¬(cap=i):=by omega
 have aq:IntKind.i64.wrap ((i:Int)+1)=(i:Int)+1:=by rw[IntKind.wrap_i64];omega
 have af:(0:Int)<=(i:Int)+1:=by omega
 have ag:(i:Int)+1<=(cap:Int)+1:=by omega
 have an:((i:Int)+1).toNat=i+1:=by omega
 have ah:(i:Int)<=(cap:Int):=by omega
 clear o r q I J d hv V a6 N h1 Z a1 A hR hG U s;rcases K with⟨rfl,rfl,rfl,rfl,rfl,rfl⟩|⟨rfl,rfl,rfl,rfl,rfl,rfl⟩
 all_goals
  first|go_enter func387,ntmps387|go_enter func266,ntmps266
  go_wp2_with (first
   |(at_builtin;refine Lib.wpList_append_run _ rfl _ _ _ _ rfl _ _ rfl rfl _ _ (aa _) ?_)
   |(at_builtin;refine wpList_copy_runI _ rfl _ _ _ _ rfl _ _ rfl rfl (X _ _) ?_))
  go_region_law (refine step_copy_runI rfl _ _ _ _ rfl (.slice (some ⟨w.heap.size,i+1,none⟩) (cap - i) (G - (i+1))) (.slice (some ⟨g,i,none⟩) (cap - i) (cap - i)) (by simp[Act.eval,Act.put]) (by simp[Act.eval,Act.put]) (Y _ _ _) ?_)
  go_wp2;go_ret;refine⟨_,rfl,⟨by grind,.inr ⟨w.heap.size,G,_,rfl,hb,HB,a7,a4,by rw[jd,jd,Ds];exact a5,by grind⟩⟩,HK.mono (by simp),.inr ?_⟩;intro k hk;simp[Value.ownBlock]at hk;omega
def acZ (K:IK T S F O B z) (base n i h:Nat) (v u:gh) (xs:List gh) (w:fO) (J:w.ownsRow base T 1 v n xs) (D:w.heap[h]?=some (fV #[u] T)) (y:v.ownBlock≠some h) (A:u.oneCell'=true) (H:∀x∈xs,x.oneCell'=true) (X:i<=n) (l:n<=1048576) (I:base<=w.heap.size):
  Calls prog F #[v,fK i,mW h 1 1] w (YY T base v n i xs u w):=by
 by_cases r:i=n
 .subst r;exact Vk K base i h v u xs w J D A l I
 .rcases J.2 with⟨_,V⟩|⟨g,cap,o,rfl,q,f,s,R,m,d⟩
  .omega
  .have N:h≠g:=λe=>y (by rw[e];rfl);rw[Ds]at m d
   by_cases U:n+1<=cap
   .exact Rn K base g cap n i h u o xs w q f d m R U (by omega) D N A H l
   .exact Ta K base g cap n i h u o xs w f d m s (by omega) (by omega) D A H l I
end
def xo.WD (h:xo base b j tB C v xs w) (d:∀x∈xs,tE w x):aeB v xs w:=ab4 h.row d
def xo.mZ (h:xo base b j tB C v xs w):v.ownBlock≠some b:=by
 intro d;rcases h.row.2 with⟨e,_⟩|⟨g,cap,f,e,_,l,_⟩
 .rw[e]at d;cases d
 .rw[e]at d;obtain rfl:=jr d;exact yI l h.gR (xH h.ne) rfl
def row_one (xs:j5):∀u∈xs.map kK,u.oneCell'=true:=by
 intro u d;obtain⟨x,_,rfl⟩:=List.mem_map.1 d;rfl
def oA (base b j:Nat) (tB:TypeId) (C:jB) (v:gh) (ys:j5) (w w':fO):Prop:=
 ∃d,xo base b j tB (C.setIfInBounds j d) d ys w'/\Kept (b::v.ownBlock.toList) w w'/\(d.ownBlock=v.ownBlock\/∀k,d.ownBlock=some k->w.heap.size<=k)
def sU (h:C[j]?=some v):j < C.size:=(Array.getElem?_eq_some_iff.1 h).1
def YU (base b j:Nat) (tB:TypeId) (C:jB) (v:gh) (xs:j5) (w:fO) (h:xo base b j tB C v xs w):
  Calls prog 179 #[jp b j] w λe w'=>e=gO (kK (gU xs ((xs.length:Int) - 1)))/\w'=w:=by
 have f:=h.at;have d:=h.le;obtain⟨ao,cap,rfl⟩:=fS h.row;have H:=Ze base b j tB C _ xs ((xs.length:Int) - 1) w h;go_enter func179,ntmps179
 go_wp21
 refine H.mono ?_;rintro e w' ⟨rfl,rfl⟩;go_wp2;go_ret;simp
def adq (base b j:Nat) (tB:TypeId) (C:jB) (v:gh) (xs:j5) (x:iM) (w:fO) (h:xo base b j tB C v xs w) (l:∀x∈xs,tE w x) (n:tE w x):
  Calls prog 322 #[jp b j,kK x] w λe w'=>e=gO (.bool (decide (x∈xs)))/\w'=w:=by
 have o:=h.at;have m:=h.le;have g:Calls prog 349 #[v,kK x] w λe w'=>e=gO (.bool (decide (x∈xs)))/\w'=w:=by
  have H:=EU v xs x w (h.WD l) n h.le;have f:decide (0<=posOf xs x)=decide (x∈xs):=by
   unfold posOf
   by_cases s:x∈xs
   .grind
   .grind
  have d:=fx f;clear f;generalize posOf xs x=q at H d;generalize decide (x∈xs)=r at d|-;go_enter func349,ntmps349
  go_wp21
  refine H.mono ?_;rintro e w' ⟨rfl,rfl⟩;go_wp2;go_ret;exact⟨by rw[<-d.out];rfl,rfl⟩
 obtain⟨ao,cap,rfl⟩:=fS h.row;have H:=g;go_enter func322,ntmps322
 go_wp21
 refine H.mono ?_;rintro e w' ⟨rfl,rfl⟩;go_wp2;go_ret;simp
def OD (base b j:Nat) (tB:TypeId) (C:jB) (v:gh) (xs:j5) (x:iM) (w:fO) (h:xo base b j tB C v xs w) (f:∀x∈xs,tE w x) (m:tE w x):
  Calls prog 246 #[jp b j,kK x] w λe w'=>e=gO (kK (gU xs (posOf xs x - 1)))/\w'=w:=by
 have n:=h.at;have g:=h.le;have l: -1<=posOf xs x/\posOf xs x<=4096:=by unfold posOf;split<;>omega
 have⟨hp1,hp2⟩:=l;have d:=EU v xs x w (h.WD f) m h.le;obtain⟨ao,cap,rfl⟩:=fS h.row;have H:=Ze base b j tB C _ xs (posOf xs x - 1) w h;generalize posOf xs x=q at H d hp1 hp2|-;go_enter func246,ntmps246
 go_wp21
 refine d.mono ?_;rintro e w' ⟨rfl,rfl⟩
 go_wp21
 refine H.mono ?_;rintro e w' ⟨rfl,rfl⟩;go_wp2;go_ret;simp
def Y9 (base b j:Nat) (tB:TypeId) (C:jB) (v:gh) (xs:j5) (x:iM) (w:fO) (h:xo base b j tB C v xs w) (hl:xs.length < 4096) (hb:base<=w.heap.size):
  Calls prog 271 #[jp b j,kK x] w λe w'=>e=oS/\oA base b j tB C v (xs++[x]) w w':=by
 have⟨i0,hi,hz0,hz1,hz2⟩:=tL adX;have c1:=h.at;have X:=h.mZ;obtain⟨ao,cap,rfl⟩:=fS h.row;have H:=fx h;clear h;have f:Kept [] w (w.alloc (.cells #[kK x] 72)):=(Kept.refl _ _).alloc _;have Y:=f.ownsRow H.row (λ_ _=>by simp);have b1:=f.at H.gR (by simp);have I:=fB w (fV #[kK x] 72);have y:=fx I;clear I;go_enter func271,ntmps271;go_wp2_with (at_builtin;refine gQ _ rfl _ _ 174 rfl base 72 i0 (.pointer none) 1 8 underlying174 hi hz0 hz1 hz2 rfl (by decide) (.slice ao xs.length cap) xs.length (xs.map kK) rfl Y ⟨w.heap.size,0,none⟩ 1 1 [kK x] rfl rfl (λk u r=>by rw[iT,fw y.out,<-r];simp) (λu r=>by simp at r;subst r;rfl) (by unfold maxLen;omega) (by omega) (by simp;omega) ?_);intro v' s d l A;have D:Kept (Value.slice ao xs.length cap).ownBlock.toList w s:=(f.mono (by simp)).grown l (λk n=> .inl (by grind));have q:s.heap[b]?=some (fV C tB):=D.at H.gR (by grind);have⟨ao',cap',hv⟩:=fS d;subst hv;have d1:s.cell? ⟨b,j,none⟩=some (.slice ao xs.length cap):=by rw[fw q];exact H.cell
 have d2:=fA q j;have J:=fI q j (.slice ao' (xs.length+1) cap');have o:(Value.slice ao' (xs.length+1) cap').ownBlock≠some b:=by
  intro n;rcases d.2 with⟨e,_⟩|⟨g,cap,U,e,_,V,_⟩
  .omega
  .rw[e]at n;obtain rfl:=jr n;exact yI V q (xH H.ne) rfl
 have Z:=tG (a:=⟨b,j,none⟩) d o (.slice ao' (xs.length+1) cap');have N:Kept (b::(Value.slice ao xs.length cap).ownBlock.toList) w (s.setCell ⟨b,j,none⟩ (.slice ao' (xs.length+1) cap')):=(D.mono (λk n _=>rj _ n)).setCell (.inl (by simp)) _;have m:(Value.slice ao' (xs.length+1) cap').ownBlock=(Value.slice ao xs.length cap).ownBlock\/∀k,(Value.slice ao' (xs.length+1) cap').ownBlock=some k->w.heap.size<=k:=by
  rcases A with e|e
  .grind
  .grind
 have R:=m;go_wp2;go_end0;refine⟨rfl,_,⟨J,?_,?_,H.ne,by grind⟩,N,R⟩
 .simp[sU H.out.cell]
 grind
def adb (base b j:Nat) (tB:TypeId) (C:jB) (v:gh) (xs:j5) (w:fO) (h:xo base b j tB C v xs w):
  Calls prog 184 #[jp b j] w λe w'=>e=gO (kK (gU xs ((xs.length:Int) - 1)))/\oA base b j tB C v xs.dropLast w w':=by
 have s:=YU base b j tB C v xs w h;have Y:=h.at;have J:=h.le;have o:=h.mZ;obtain⟨ao,cap,rfl⟩:=fS h.row;have U:xs.length<=cap:=by
  rcases h.row.2 with⟨e,A⟩|⟨g,d,f,e,_,_,n,_⟩
  .omega
  .grind
 obtain⟨m,N⟩:∃m:Nat,m=xs.length - 1:=⟨_,rfl⟩;have R:max (0:Int) ((xs.length:Int) - 1)=(m:Int):=by omega
 have Z:=fA h.gR j;have y:oA base b j tB C (.slice ao xs.length cap) xs.dropLast w (w.drew.setCell ⟨b,j,none⟩ (.slice ao m cap)):=by
  have V:(w.drew.setCell ⟨b,j,none⟩ (.slice ao m cap)).ownsRow base 72 1 (.slice ao m cap) xs.dropLast.length (xs.dropLast.map kK):=by
   have q:w.ownsRow base 72 1 (.slice ao m cap) xs.dropLast.length (xs.dropLast.map kK):=by
    refine⟨by simp,?_⟩;rcases h.row.2 with⟨e,A⟩|⟨g,d,f,e,l,D,n,H,I,r⟩
    .grind
    .injection e with e1 e2 e3;refine .inr ⟨g,cap,f,by grind,l,D,by grind,by omega,by omega,?_⟩;rw[Ds]at r|-;rw[List.length_dropLast,List.map_dropLast,<-r,ZH,Ml]
     grind
   refine tG (a:=⟨b,j,none⟩) (w:=w.drew) q ?_ _;have:(Value.slice ao m cap).ownBlock=(Value.slice ao xs.length cap).ownBlock:=by cases ao<;>rfl
   rw[this];exact o
  refine⟨_,⟨fI (w:=w.drew) h.gR j _,?_,V,h.ne,by grind⟩,(Kept.refl _ w).drew.setCell (.inl (by simp)) _,.inl (by cases ao<;>rfl)⟩;simp[sU h.cell]
 clear h N;go_enter func184,ntmps184
 go_wp21
 refine s.mono ?_;rintro e w' ⟨rfl,X⟩;subst X
 go_wp21
 go_region;go_wp2;go_ret;exact⟨rfl,y⟩
def sP (xs:j5) (x:iM):(x∉xs/\posOf xs x= -1)\/∃n:Nat,posOf xs x=n/\n < xs.length/\n=xs.idxOf x/\xs[n]?=some x:=by
 unfold posOf
 by_cases f:x∈xs
 .have d:=List.idxOf_lt_length_iff.2 f;rw[fU d];exact .inr ⟨_,rfl,d,rfl,by rw[pY d];simp⟩
 .rw[gn (λd=>f (List.idxOf_lt_length_iff.1 d))];exact .inl ⟨f,rfl⟩
def D6 {n : Nat} (d:n=xs.idxOf x):xs.take n++xs.drop (n+1)=xs.erase x:=by
 rw[<-List.eraseIdx_eq_take_drop_succ,d,List.erase_eq_eraseIdx_of_idxOf rfl]
def oA.refl (h:xo base b j tB C v xs w):oA base b j tB C v xs w w:=by
 have e:C.setIfInBounds j v=C:=by
  have:=h.cell;apply Array.ext_getElem?;intro i
  by_cases d:j=i
  .grind
  .grind
 exact⟨v,by grind,Kept.refl _ _,.inl rfl⟩
def A0 (base b j:Nat) (tB:TypeId) (C:jB) (v:gh) (xs:j5) (x:iM) (w:fO) (h:xo base b j tB C v xs w) (he:∀x∈xs,tE w x) (hx:tE w x):
  Calls prog 187 #[jp b j,kK x] w λe w'=>e=oS/\oA base b j tB C v (xs.erase x) w w':=by
 have c1:=h.at;have y:=EU v xs x w (h.WD he) hx h.le;rcases sP xs x with⟨U,V⟩|⟨n,V,a0,hn,_⟩
 .have HF:=oA.refl h;rw[List.erase_of_not_mem U];obtain⟨ao,cap,rfl⟩:=fS h.row;rw[V]at y;clear h;go_enter func187,ntmps187;go_wp2_with fail;refine y.mono ?_;rintro e w' ⟨rfl,Y⟩;subst Y;go_wp2;go_end0
  grind
 .have r:=h.mZ;have N:=h.le;rcases h.row.2 with⟨_,e0⟩|⟨g,cap,D,rfl,I,o,R,hm,s,d⟩
  .omega
  rw[Ds]at s d;have HD:=adz g cap n (n+1) xs.length D w o R s (by omega) (by omega) N (by rw[d];exact row_one xs);rw[show((n+1:Nat):Int)=(n:Int)+1 by omega,show xs.length - (n+1 - n)=xs.length - 1 by omega]at HD;have HN:=fx hn;clear hn;have H:=fx h;have HT:=fx d;rw[V]at y;clear h d;go_enter func187,ntmps187;go_wp2_with fail;refine y.mono ?_;rintro e w' ⟨rfl,Y⟩;subst Y;go_wp2_with fail;refine HD.mono ?_;rintro e Z ⟨rfl,m,J,a1,X,q⟩;have A:=q.at H.gR (by intro l;exact r (by simp at l;rw[l];rfl));have d1:Z.cell? ⟨b,j,none⟩=some (mW g xs.length cap):=by rw[fw A];exact H.cell
  have d2:=fA A j;have H3:=fI A j (mW g (xs.length - 1) cap);have f:(xs.erase x).length=xs.length - 1:=by rw[<-D6 HN.out];simp;omega
  have r2:Z.ownsRow base 72 1 (mW g (xs.length - 1) cap) (xs.erase x).length ((xs.erase x).map kK):=by
   refine⟨by simp,.inr ⟨g,cap,m,by rw[f],I,J,by omega,hm,by omega,?_⟩⟩;rw[Ds,f,X,HT.out,<-D6 HN.out,rp,List.map_take,List.map_drop]
  have H4:=tG (a:=⟨b,j,none⟩) r2 r (mW g (xs.length - 1) cap);have H5:Kept (b::(mW g xs.length cap).ownBlock.toList) w' (Z.setCell ⟨b,j,none⟩ (mW g (xs.length - 1) cap)):=(q.mono (λk hk _=>by simp at hk;subst hk;simp[Value.ownBlock])).setCell (.inl (by simp)) _;have HL:=fx f;clear f;go_wp2;go_end0;exact⟨rfl,_,⟨H3,by simp[sU H.out.cell],H4,H.ne,by grind⟩,H5,.inl rfl⟩
def pI (xs:j5) (x y:iM):j5:=if x∈xs then xs.set (xs.idxOf x) y else xs
def iH (xs:j5) (x y:iM):j5:=if x∈xs then xs.take (xs.idxOf x+1)++[y]++xs.drop (xs.idxOf x+1)else xs
def od (xs:j5) (x:iM):j5:=((xs.reverse.dropWhile (·≠x)).tail).reverse
def oA.trans {v' : gh} {ys h : j5} {g : fO}
  (m:xo base b j tB (C.setIfInBounds j v') v' ys w1) (f:Kept (b::v.ownBlock.toList) w w1) (n:v'.ownBlock=v.ownBlock\/∀k,v'.ownBlock=some k->w.heap.size<=k)
  (l:oA base b j tB (C.setIfInBounds j v') v' h w1 g):oA base b j tB C v h w g:=by
 have⟨v2,L2,k2,f2⟩:=l;refine⟨v2,by simp_all,f.next k2 ?_,?_⟩
 .grind
 .rcases f2 with e|e
  .grind
  .exact .inr λk d=>jC f.size (e k d)
def Fp (base b j:Nat) (tB:TypeId) (C:jB) (v:gh) (xs:j5) (x y:iM) (w:fO) (h:xo base b j tB C v xs w) (Z:∀x∈xs,tE w x) (hx:tE w x):
  Calls prog 276 #[jp b j,kK x,kK y] w λe w'=>e=oS/\oA base b j tB C v (pI xs x y) w w':=by
 have c1:=h.at;have o:=EU v xs x w (h.WD Z) hx h.le;rcases sP xs x with⟨I,N⟩|⟨n,N,a0,D,X⟩;have U:=oA.refl h;have R:pI xs x y=xs:=by unfold pI;rw[gn I]
 rw[R];obtain⟨ao,cap,rfl⟩:=fS h.row;rw[N]at o
 rotate_left
 have J:=h.mZ;have A:=h.le;have R:pI xs x y=xs.set n y:=by unfold pI;rw[fU (tK X),<-D]
 rw[R];rcases h.row.2 with⟨_,e0⟩|⟨g,cap,l,rfl,r,d,H,hm,m,f⟩
 .omega
 rw[Ds]at m f;have s:g≠b:=λe=>J (by rw[e];rfl);have V:∃u,w.cell? ⟨g,n,none⟩=some u:=⟨l[n]'(by omega),by rw[fw d];simp⟩;have⟨u,V⟩:=V;have d2:=fA d n;have U:oA base b j tB C (mW g xs.length cap) (xs.set n y) w (w.setCell ⟨g,n,none⟩ (kK y)):=by
  have q:(w.setCell ⟨g,n,none⟩ (kK y)).heap[b]?=some (fV C tB):=by rw[Below.heap_setCell w ⟨g,n,none⟩ _ b (xH s)];exact h.gR
  have Y:xo base b j tB C (mW g xs.length cap) (xs.set n y) (w.setCell ⟨g,n,none⟩ (kK y)):=by
   refine⟨q,h.cell,⟨by simp,.inr ⟨g,cap,_,by simp,r,fI d n (kK y),by simpa using H,hm,by simpa using m,?_⟩⟩,h.ne,by simpa using A⟩;have:(l.setIfInBounds n (kK y)).toList=l.toList.set n (kK y):=by simp
   rw[this,List.length_set,Ds,List.take_set,f,List.map_set]
  have⟨v',L',k',f'⟩:=oA.refl Y;exact⟨v',L',(((Kept.refl _ w).setCell (p:=⟨g,n,none⟩) (.inl (by simp[Value.ownBlock])) _).trans k'),by simpa using f'⟩
 have HN:=fx D;rw[N]at o;clear D
 all_goals
  go_enter func276,ntmps276
  go_wp21
  refine o.mono ?_;rintro e w' ⟨rfl,hw⟩;subst hw;go_wp2;go_end0;exact⟨rfl,U⟩
def Gq (base b j:Nat) (tB:TypeId) (C:jB) (v:gh) (xs:j5) (x y:iM) (w:fO) (h:xo base b j tB C v xs w) (he:∀x∈xs,tE w x) (hx:tE w x) (hl:xs.length < 4096) (hb:base<=w.heap.size):
  Calls prog 376 #[jp b j,kK x,kK y] w λe w'=>e=oS/\oA base b j tB C v (iH xs x y) w w':=by
 have c1:=h.at;have o:=EU v xs x w (h.WD he) hx h.le;rcases sP xs x with⟨J,R⟩|⟨n,R,a4,I,HX⟩
 .have r:=oA.refl h;have U:iH xs x y=xs:=by unfold iH;rw[gn J]
  rw[U];obtain⟨ao,cap,rfl⟩:=fS h.row;rw[R]at o;clear h;go_enter func376,ntmps376
  go_wp21
  refine o.mono ?_;rintro e w' ⟨rfl,V⟩;subst V;go_wp2;go_end0;exact⟨rfl,r⟩
 .have N:=h.mZ;have a3:=h.le;have U:iH xs x y=xs.take (n+1)++[y]++xs.drop (n+1):=by unfold iH;rw[fU (tK HX),<-I]
  rw[U];have d:Kept [] w (w.alloc (.cells #[kK y] 72)):=(Kept.refl _ _).alloc _;have v1:=fB w (fV #[kK y] 72);have a1:(w.alloc (fV #[kK y] 72)).heap.size=w.heap.size+1:=by simp
  have a5:=h.row.lt;have X:=acZ (.inl ⟨rfl,rfl,rfl,rfl,rfl,rfl⟩) base xs.length (n+1) w.heap.size v (kK y) (xs.map kK) (w.alloc (fV #[kK y] 72)) (d.ownsRow h.row (λ_ _=>by simp)) v1 (λe=>by grind) rfl (row_one xs) (by omega) (by omega) (by omega);rw[show((n+1:Nat):Int)=(n:Int)+1 by omega]at X;have a0:=d.at h.gR (by simp);obtain⟨ao,cap,rfl⟩:=fS h.row;have H:=fx h;have HN:=fx I;rw[R]at o;clear h I;go_enter func376,ntmps376
  go_wp21
  refine o.mono ?_;rintro e w' ⟨rfl,V⟩;subst V
  go_wp21
  refine X.mono ?_;rintro e q ⟨v',rfl,f,D,A⟩;have⟨ao',cap',hv⟩:=fS f;subst hv;have Y:Kept (Value.slice ao xs.length cap).ownBlock.toList w' q:=(d.mono (by simp)).trans (S:=(Value.slice ao xs.length cap).ownBlock.toList) D;have s:q.heap[b]?=some (fV C tB):=Y.at H.gR (by simpa using N);have d1:q.cell? ⟨b,j,none⟩=some (.slice ao xs.length cap):=by rw[fw s];exact H.cell
  have d2:=fA s j;have H3:=fI s j (.slice ao' (xs.length+1) cap');have m:(Value.slice ao' (xs.length+1) cap').ownBlock≠some b:=by
   intro Z;rcases f.2 with⟨e,_⟩|⟨g,cap,a2,e,_,hc,_⟩
   .omega
   .grind
  have H4:=tG (a:=⟨b,j,none⟩) f m (.slice ao' (xs.length+1) cap');have H5:Kept (b::(Value.slice ao xs.length cap).ownBlock.toList) w' (q.setCell ⟨b,j,none⟩ (.slice ao' (xs.length+1) cap')):=(Y.mono (λk Z _=>rj _ Z)).setCell (.inl (by simp)) _;have l:(Value.slice ao' (xs.length+1) cap').ownBlock=(Value.slice ao xs.length cap).ownBlock\/∀k,(Value.slice ao' (xs.length+1) cap').ownBlock=some k->w'.heap.size<=k:=by
   rcases A with e|e
   .exact .inl e
   .grind
  have r:=l;go_wp2;go_end0;refine⟨rfl,_,⟨H3,by simp[sU H.out.cell],?_,H.ne,by simp;omega⟩,H5,r⟩;have e1:(xs.take (n+1)++[y]++xs.drop (n+1)).length=xs.length+1:=by simp;omega
  simp_all
def Ve (x:iM):od [] x=[]:=rfl
def SY (xs:j5) (y x:iM):od (xs++[y]) x=if y=x then xs else od xs x:=by
 unfold od;rw[MJ]
 by_cases h:y=x
 all_goals simp_all
def JB (xs:j5) (y:iM):gU (xs++[y]) (((xs++[y]).length:Int) - 1)=y:=by
 unfold gU;rw[fU (by grind)];simp
def Ap (a:Addr) (w:fO):Nat:=match w.cell? a with
 |some (.slice _ n _)=>n
 |_=>0
def xo.Ap (h:xo base b j tB C v xs w):Ap ⟨b,j,none⟩ w=xs.length:=by
 obtain⟨ao,cap,rfl⟩:=fS h.row;unfold YtlhhgenpcjjajaaGreatDoor.Ap;rw[h.at]
def tE.kept (h:tE w x) (g:Kept S w w') (f:∀k,x=some k->k∉S):tE w' x:=by
 intro k d;have⟨c,hc⟩:=h k d;exact⟨c,g.at hc (f k d)⟩
def JV (h:xo base b j tB C v xs w) (m:tB≠140) (o:tE w x):∀k,x=some k->k∉b::v.ownBlock.toList:=by
 intro k n d;have⟨c,hc⟩:=o k n;rcases List.mem_cons.1 d with rfl|d
 .exact yI h.gR hc m rfl
 .rcases h.row.2 with⟨e,_⟩|⟨g,cap,l,e,_,f,_⟩
  .rw[e]at d;simp[Value.ownBlock]at d
  .rw[e]at d;simp[Value.ownBlock]at d
   grind
def UJ (base b j:Nat) (tB:TypeId) (C:jB) (v:gh) (xs:j5) (x:iM) (w:fO) (h:xo base b j tB C v xs w) (Y:tB≠140) (Z:∀x∈xs,tE w x) (hx:tE w x):
  Calls prog 328 #[jp b j,kK x] w λe w'=>e=oS/\oA base b j tB C v (od xs x) w w':=by
 have h0:=oA.refl h;have hE:=Z;have hX:=hx;have hO:=(λy hy=>JV h Y (Z y hy));have J:=JV h Y hx;go_enter func328,ntmps328;go_wp2
 go_loopw [9] (λ_ wr=>∃g,(∀y∈g,y∈xs)/\od g x=od xs x/\oA base b j tB C v g w wr) (λ_ wr=>Ap ⟨b,j,none⟩ wr)
 case atStart=>grind
 case round=>
  have⟨g,hS,hpt,v',L1,k1,f1⟩:=hrel;have o:=L1.Ap;have I:=L1.at;have⟨ao,cap,hv⟩:=fS L1.row;have N:g=[]\/∃f y,g=f++[y]:=by
   rcases Uc g with h|⟨f,y,h⟩
   .grind
   .grind
  rcases N with rfl|⟨f,y,rfl⟩
  .rw[hv]at I;have A:=(show oA base b j tB C v (od xs x) w wr from⟨v',by rw[<-hpt,Ve];exact L1,k1,f1⟩);clear L1 o;go_wp2;go_end0
   grind
  .rw[hv]at I;have n:0 < (f++[y]).length:=by simp
   have V:=adb base b j tB _ v' _ wr L1;rw[JB]at V;have HY:tE w y:=hE y (hS y (by simp));have D:=hO y (hS y (by simp));have HT:=(λ(r:fO) (h2:oA base b j tB (C.setIfInBounds j v') v' (f++[y]).dropLast wr r)=>oA.trans L1 k1 f1 h2);have HL:=fx L1;have hq:=fx (show od xs x=if y=x then f else od f x by rw[<-hpt,SY]);have q:=fx o;obtain⟨m,s⟩:∃m,m=(f++[y]).length:=⟨_,rfl⟩;rw[<-s]at I n q;have HM:=fx s;have a0:m<=4096:=by rw[s];exact L1.le
   clear L1 o s
   go_wp21
   refine V.mono ?_;rintro e r ⟨rfl,R⟩;have X:=HT r R;rw[Uw]at X;have⟨v2,L2,k2,f2⟩:=X;have l:=C7 (HY.kept k2 D) (hX.kept k2 J);have U:=fx L2.Ap
   by_cases d:y=x
   .rw[uJ d]at l;have A:=(show oA base b j tB C v (od xs x) w r from⟨v2,by rw[hq.out,fU d];exact L2,k2,f2⟩);clear L2 d;go_wp2
    (try simp only[Exit.inBlock,Exit.then])
    refine nK (Gn rfl _ _ _) rfl ?_
    grind
   .rw[vD d]at l;have A:=(show oA base b j tB C v f w r from⟨v2,L2,k2,f2⟩);have H:=fx d;clear L2 d;go_wp2;go_roundw
    case rel=>exact⟨f,λz o=>hS z (by simp[o]),by rw[hq.out,gn H.out],A⟩
    case measure=>rw[U.out,q.out,HM.out];simp
attribute [local go_sem] Oper.semAt_some
def j7 (K:List Nat) (W d:fO):Prop:=∀k∈K,d.heap[k]?=W.heap[k]?
def j7.refl (K:List Nat) (W:fO):j7 K W W:=λ_ _=>rfl
def j7.trans {A B C : fO} (h:j7 K A B) (k:j7 K B C):j7 K A C:=λx d=>(k x d).trans (h x d)
def j7.jl {d : fO} (h:Kept S W d) (f:∀k∈K,k < W.heap.size/\k∉S):j7 K W d:=λk g=>h.block k (f k g).1 (f k g).2
def j7.put (f:∀k∈K,k < w.heap.size) (W:fO) (l:Nat) (o d:Obj) (h:w.heap.size<=l) (_:W.heap[l]?=some o) (_:o.isCells=false) (_:o.isWalk=false):j7 K W (W.putObj l d):=
 λk g=>p5 (by grind)
def xo.EP (h:xo base b j tB C v xs w) (l:j7 K w w') (m:b∈K) (o:∀k,v.ownBlock=some k->k∈K):xo base b j tB C v xs w':=by
 refine⟨(l b m).trans h.gR,h.cell,⟨h.row.1,?_⟩,h.ne,h.le⟩;rcases h.row.2 with e|⟨g,cap,d,e,f,n,r⟩
 .grind
 .exact .inr ⟨g,cap,d,e,f,(l g (o g (by rw[e];rfl))).trans n,r⟩
def ad1 (m:Nat) (a6:1<=m) (base b j:Nat) (tB:TypeId) (C:jB) (v:gh) (xs:j5) (n bN A l:Nat) (K:List Nat) (J Jx:List {x:iM // x∈xs}->fO->Prop)
  (hn:n<=xs.length) (a1:b∈K) (a0:A∈K) (a2:∀k,v.ownBlock=some k->k∈K)
  (hY:∀pre x W,J pre W->pre.length < n->YieldAt Fence.wide (m - 1) prog l #[kK x.1] W λe y=>
   (e=gO (.bool true)/\J (pre++[x]) y/\j7 K W y)\/(e=gO (.bool false)/\Jx (pre++[x]) y))
  (W:fO) (h:xo base b j tB C v xs W) (hN:W.cell? ⟨bN,0,none⟩=some (fK n)) (hL:W.cell? ⟨A,0,none⟩=some (jp b j)) (h0:J [] W):
  CallsIn Fence.wide m prog 357 #[.func (.yield l) #[] #[],fW bN,fW A] W λe y=>(∃r,e=gO r)/\
   ((∃ys,ys.map (·.1)=(xs.take n).reverse/\J ys y)\/(∃pre,pre.map (·.1) <+:(xs.take n).reverse/\Jx pre y)):=by
 refine callsIn_of_wp func357 rfl trivial ?_ rfl;simp only[ntmps357,xC,sV,vZ,Nat.reduceAdd,Nat.reduceSub,xn,xj,xm,xI,rM,vz];have a4:=h.le;have HL:=fx h;clear h;have HY:=fx hY;clear hY;gi_wp2
 gi_loopw [4] (λi wr=>∃(k:Nat) (pre:List {x:iM // x∈xs}),k<=n/\pre.length=k/\i=fK ((n:Int) - 1 - k)/\pre.map (·.1)=(xs.take n).reverse.take k/\j7 K W wr/\J pre wr)
  (λi _=>((intOf i)+1).toNat)
 case atStart=>grind[j7]
 case round=>
  obtain⟨k,pre,hk,a7,rfl,s,f,hJ⟩:=hrel;have L1:=HL.out.EP f a1 a2;have cL:wr.cell? ⟨A,0,none⟩=some (jp b j):=(YZ (w:=W) (f A a0)).trans hL;have HP:=fx s;have V:=fx f;clear s f
  by_cases a5:k < n
  .obtain⟨q,hq⟩:∃q:Nat,q=n - 1 - k:=⟨_,rfl⟩;have N:(n:Int) - 1 - k=(q:Int):=by omega
   have g:q < xs.length:=by omega
   rw[N];have Y:=Ze base b j tB C v xs (q:Int) wr L1;have hg:gU xs (q:Int)=xs[q]:=by unfold gU;rw[fU (by omega)];simp[g]
   rw[hg]at Y;have HA:=fx Y;have⟨fn,tmps,assign,body,hy,hR⟩:=HY.out pre ⟨xs[q],tM g⟩ wr hJ (by omega);dsimp only at hy;have d:(pre++[(⟨xs[q],tM g⟩:{x:iM // x∈xs})]).map (·.1)=(xs.take n).reverse.take (k+1):=by
    have I:(xs.take n).length=n:=by simp;omega
    have e1:(xs.take n).reverse[k]?=some xs[q]:=by
     rw[Qo (by omega),I,EF,fU (by omega),show n - 1 - k=q from hq.symm,pY g]
    rw[rp,HP.out,IW,e1];rfl
   have HS:=fx d;have HR:=fx hR;have HQ:=fx hq;clear Y hg d hR L1 hq N
   gi_wp2_with (refine⟨trivial,?_⟩;gi_at_call 248;refine(callsIn_wide.2 HA.out).mono ?_;rintro e w' ⟨rfl,rfl⟩)
   refine HR.out.mono ?_;rintro e W3 (⟨rfl,Z,H⟩|⟨rfl,D⟩)
   .have U:=fx (V.out.trans H);clear H;gi_wp2;go_roundw
    case rel=>exact⟨k+1,_,by omega,by grind,by have:=HQ.out;grind,HS.out,U.out,Z⟩
    case measure=>simp[intOf]
   .gi_wp2;refine nK (Gn rfl _ _ _) rfl ?_;refine⟨⟨_,rfl⟩,.inr ⟨_,?_,D⟩⟩;rw[HS.out];exact List.take_prefix _ _
  .have a3:k=n:=by omega
   have R:pre.map (·.1)=(xs.take n).reverse:=by
    rw[HP.out,Bd (by grind)]
   have X:=fx R;have o:(n:Int) - 1 - k= -1:=by omega
   rw[o];clear R a3 o;gi_wp2;go_end0;exact⟨⟨_,rfl⟩,.inl ⟨pre,X.out,hJ⟩⟩
abbrev mc (b j:Nat) (n:Int) (w:fO):fO:=(w.alloc (fV #[jp b j] 280)).alloc (fV #[fK n] 3)
abbrev uL (s:Nat):gh:= .func (.func 357) #[] #[fW (s+1),fW s]
def LA (b j:Nat) (n:Int) (w:fO):
  Calls prog 330 #[jp b j,fK n] w λe w'=>e=gO (uL w.heap.size)/\w'=mc b j n w:=by
 go_enter func330,ntmps330;go_wp2;go_ret;simp
def Wy (base b j:Nat) (tB:TypeId) (C:jB) (v:gh) (xs:j5) (w:fO) (h:xo base b j tB C v xs w):
  Calls prog 294 #[jp b j] w λe w'=>e=gO (uL w.heap.size)/\w'=mc b j xs.length w:=by
 have g:=h.at;obtain⟨ao,cap,rfl⟩:=fS h.row;have H:=LA b j xs.length w;go_enter func294,ntmps294
 go_wp21
 refine H.mono ?_;rintro e w' ⟨rfl,d⟩;have f:=fx d;clear d;go_wp2;go_ret;exact⟨rfl,f⟩
def abY (base b j:Nat) (tB:TypeId) (C:jB) (v:gh) (xs:j5) (x:iM) (w:fO) (h:xo base b j tB C v xs w) (l:∀x∈xs,tE w x) (m:tE w x):
  Calls prog 385 #[jp b j,kK x] w λe w'=>e=gO (uL w.heap.size)/\w'=mc b j (posOf xs x) w:=by
 have n:=h.at;have f:=EU v xs x w (h.WD l) m h.le;obtain⟨ao,cap,rfl⟩:=fS h.row;have H:=LA b j (posOf xs x) w;generalize posOf xs x=q at H f|-;go_enter func385,ntmps385
 go_wp21
 refine f.mono ?_;rintro e w' ⟨rfl,d⟩;subst d
 go_wp21
 refine H.mono ?_;rintro e w' ⟨rfl,d⟩;have g:=fx d;clear d;go_wp2;go_ret;exact⟨rfl,g⟩
def O5 (m:Nat) (A:1<=m) (base b j:Nat) (tB:TypeId) (C:jB) (v:gh) (xs:j5) (n s:Nat) (K:List Nat) (w:fO)
  (h:xo base b j tB C v xs w) (V:n<=xs.length) (o:b∈K) (g:s∈K) (q:∀k,v.ownBlock=some k->k∈K) (y:s+1 < w.heap.size)
  (R:w.heap[s+1]?=some (fV #[fK n] 3)) (N:w.heap[s]?=some (fV #[jp b j] 280)):
  SeqStopsK Fence.wide m prog 357 #[fW (s+1),fW s] (λx:{x:iM // x∈xs}=>#[kK x.1]) (j7 K)
   (λX=>X.map (·.1)=(xs.take n).reverse) (λpre=>pre.map (·.1) <+:(xs.take n).reverse) n w:=by
 intro l J D W f _ _ U I;have r:=iB h.gR;have H:xo base b j tB C v xs W:=by
  refine h.EP (K:=b::v.ownBlock.toList) (λk d=>f.block k ?_) (by simp) (λk d=>by simp[d]);rcases List.mem_cons.1 d with rfl|d
  .exact r
  .exact(h.row.lt k (by grind)).2
 exact ad1 m A base b j tB C v xs n (s+1) s l K J D V o g q U W H (by rw[fw ((f.block _ y).trans R)];rfl) (by rw[fw ((f.block _ (by omega)).trans N)];rfl) I
def ku (a b:fN):Bool:=a.toList==b.toList
def xu {a b : fN}:ku a b=true↔a=b:=by
 unfold ku;rw[sH,sH,beq_iff_eq];exact⟨λh=>WideShapes.bytes_inj h,λh=>by rw[h]⟩
def aaj {a b : fN}:ku a b=false↔a≠b:=by rw[Ne,<-xu];simp
def gI (d:List fN) (x:fN):Bool:=d.any (ku x)
def O0 (d:List fN) (s:fN):Int:=if d.findIdx (ku s) < d.length then (d.findIdx (ku s):Int)else -1
def abW {xs : List fN} {x : fN} (m:k < xs.length) (h:xs[k]=x) (g:∀j,j < k->xs[j]?≠some x):O0 xs x=k:=by
 have o:xs.findIdx (ku x)=k:=by
  have f:xs.findIdx (ku x) < xs.length:=XQ ⟨x,h▸tM m,xu.2 rfl⟩;have l:¬xs.findIdx (ku x) < k:=λd=>g _ d (by
   rw[pY f];exact ri some (xu.1 (List.findIdx_getElem (w:=f))).symm)
  have n:¬k < xs.findIdx (ku x):=λd=>by
   have:=List.not_of_lt_findIdx d;rw[h]at this;exact absurd (xu.2 rfl) (by simpa using this)
  omega
 grind[O0]
def acb {xs : List fN} {x : fN} (d:∀j,j < xs.length->xs[j]?≠some x):O0 xs x= -1:=by
 unfold O0;rw[gn];intro h;exact d _ h (by rw[pY h];exact ri some (xu.1 (List.findIdx_getElem (w:=h))).symm)
def XA (xs:List fN) (x:fN):decide (0<=O0 xs x)=gI xs x:=by
 grind[O0,gI]
def abv (g cap:Nat) (d:List fN) (x:fN) (w:fO) (s:∀k,(I:k < d.length)->w.cell? ⟨g,k,none⟩=some (fR d[k])) (J:d.length<=4096):
  Calls prog 329 #[mW g d.length cap,fR x] w λe w'=>e=gO (fK (O0 d x))/\w'=w:=by
 have A:=fx s;clear s;go_enter func329,ntmps329;go_wp2
 go_loopw [8] (λi wr=>∃k:Nat,k<=d.length/\i=fK k/\wr=w/\∀j,j < k->d[j]?≠some x) (λi _=>d.length - (intOf i).toNat)
 case atStart=>grind
 case round=>
  obtain⟨k,I,rfl,rfl,q⟩:=hrel
  by_cases f:k < d.length
  .have D:=A k f;obtain⟨y,o⟩:∃y,y=d[k]:=⟨_,rfl⟩;rw[<-o]at D;have r:=fx o;clear o
   by_cases l:x=y
   .have n:=fx (abW f (r.symm.trans l.symm) q);subst l;go_wp2;go_ret;exact⟨by rw[n.out];rfl,rfl⟩
   .have m:=l;have N:(x.toList==y.toList)=false:=aaj.2 l;go_wp2;go_roundw
    case rel=>
     refine⟨k+1,by omega,by go_num,by simp,λj H=>?_⟩
     by_cases e:j=k
     .subst e;rw[pY f];exact λh=>m ((jr h).symm.trans r.symm)
     grind
    case measure=>simp[intOf];omega
  .have n:=fx (acb (xs:=d) (x:=x) (λj H=>q j (by omega)));go_wp2;go_ret;exact⟨by rw[n.out];rfl,rfl⟩
def Ou (g cap:Nat) (d:List fN) (x:fN) (w:fO) (l:∀k,(hk:k < d.length)->w.cell? ⟨g,k,none⟩=some (fR d[k])) (h:d.length<=4096):
  Calls prog 292 #[mW g d.length cap,fR x] w λe w'=>e=gO (.bool (gI d x))/\w'=w:=by
 have H:=abv g cap d x w l h;have f:=fx (XA d x);generalize O0 d x=q at H f;generalize gI d x=r at f|-;go_enter func292,ntmps292
 go_wp21
 refine H.mono ?_;rintro e w' ⟨rfl,rfl⟩;go_wp2;go_ret;exact⟨by rw[<-f.out];rfl,rfl⟩
structure nY (E:List Nat) (v:gh) (p:fN->Bool) (w:fO):Prop where
 ex:∃k lb,v= .func (.func k) #[] lb/\Enters prog k/\∀W,j7 E w W->∀s,Calls prog k (#[fR s]++lb) W λe W'=>e=gO (.bool (p s))/\W'=W
 lt:∀e∈E,e < w.heap.size
def nY.keeps (h:nY E v p w) (m:j7 E w w') (o:w.heap.size<=w'.heap.size):nY E v p w':=by
 obtain⟨⟨k,q,rfl,l,g⟩,n⟩:=h;exact⟨⟨k,q,rfl,l,λW f s=>g W (m.trans f) s⟩,λe d=>lz (n e d) o⟩
def nY.kept (h:nY E v p w) (f:Kept S w w') (g:∀e∈E,e∉S):nY E v p w':=
 h.keeps (j7.jl f λk d=>⟨h.lt k d,g k d⟩) f.size
def nY.gJ (h:nY E v p w) (d:Kept [] w w'):nY E v p w':=h.kept d (λ_ _=>by simp)
def og (h:j7 E w W) (d:b∈E) (f:w.heap[b]?=some (fV c t)):W.heap[b]?=some (fV c t):=(h b d).trans f
def X3 (bs g cap:Nat) (d:List fN) (w:fO) (m:w.heap[bs]?=some (fV #[mW g d.length cap] 204)) (n:w.heap[g]?=some (fV (d.map Value.string).toArray 9)) (f:d.length<=4096):
  nY [bs,g] (.func (.func 291) #[] #[fW bs]) (gI d) w:=by
 refine⟨⟨_,_,rfl,enters_of func291 (by rfl) rfl,λW h s=>?_⟩,λe o=>?_⟩
 .have l:=fw (og h (by simp) m) 0;dsimp at l;have H:=Ou g cap d s W (λk q=>by rw[fw (og h (by simp) n)];simp) f;show Calls prog 291 #[fR s,fW bs] W _;generalize gI d s=r at H|-;go_enter func291,ntmps291
  go_wp21
  refine H.mono ?_;rintro e w' ⟨rfl,rfl⟩;go_wp2;go_ret;simp
 grind
def acR (g cap:Nat) (n:Nat) (w:fO):
  Calls prog 225 #[mW g n cap] w λe w'=>e=gO (.func (.func 291) #[] #[fW w.heap.size])/\w'=w.alloc (fV #[mW g n cap] 204):=by
 go_enter func225,ntmps225;go_wp2;go_ret;simp
def j7.sub {K' : List Nat} {A B : fO} (h:j7 K A B) (f:∀k∈K',k∈K):j7 K' A B:=λk d=>h k (f k d)
def aed (h l:Nat) (y A:List Nat) (v1 v2:gh) (p q:fN->Bool) (w:fO) (X:w.heap[h]?=some (fV #[v1] 89)) (Y:w.heap[l]?=some (fV #[v2] 89)) (D:nY y v1 p w) (H:nY A v2 q w):
  nY (h::l::(y++A)) (.func (.func 299) #[] #[fW h,fW l]) (λs=>p s||q s) w:=by
 refine⟨⟨_,_,rfl,enters_of func299 (by rfl) rfl,λW m s=>?_⟩,λe f=>?_⟩
 .have U:=fw (og m (by simp) X) 0;have V:=fw (og m (by simp) Y) 0;dsimp at U V;obtain⟨I,Z,rfl,e1,N⟩:=D.ex;obtain⟨J,a0,rfl,e2,R⟩:=H.ex;have g:=N W (m.sub (λk n=>by simp[n])) s;have o:=R W (m.sub (λk n=>by simp[n])) s;have f1:∀d w,(callFunc I d).run prog w= .ok (.enter I d) w:=e1;have f2:∀d w,(callFunc J d).run prog w= .ok (.enter J d) w:=e2;show Calls prog 299 #[fR s,fW h,fW l] W _;cases hps:p s with
  |true=>
   rw[hps]at g;go_enter func299,ntmps299
   go_wp21
   refine g.mono ?_;rintro e w' ⟨rfl,rfl⟩;go_wp2;go_ret;simp
  |false=>
   rw[hps]at g;generalize q s=r at o|-;go_enter func299,ntmps299
   go_wp21
   refine g.mono ?_;rintro e w' ⟨rfl,rfl⟩
   go_wp21
   refine o.mono ?_;rintro e w' ⟨rfl,rfl⟩;go_wp2;go_ret;simp
 .simp at f;rcases f with rfl|rfl|f|f
  .grind
  .grind
  .exact D.lt e f
  .exact H.lt e f
def aaH (h l:Nat) (y A:List Nat) (v1 v2:gh) (p q:fN->Bool) (w:fO) (X:w.heap[h]?=some (fV #[v1] 89)) (Y:w.heap[l]?=some (fV #[v2] 89)) (D:nY y v1 p w) (H:nY A v2 q w):
  nY (h::l::(y++A)) (.func (.func 324) #[] #[fW h,fW l]) (λs=>p s&&!q s) w:=by
 refine⟨⟨_,_,rfl,enters_of func324 (by rfl) rfl,λW m s=>?_⟩,λe f=>?_⟩
 .have U:=fw (og m (by simp) X) 0;have V:=fw (og m (by simp) Y) 0;dsimp at U V;obtain⟨I,Z,rfl,e1,N⟩:=D.ex;obtain⟨J,a0,rfl,e2,R⟩:=H.ex;have g:=N W (m.sub (λk n=>by simp[n])) s;have o:=R W (m.sub (λk n=>by simp[n])) s;have f1:∀d w,(callFunc I d).run prog w= .ok (.enter I d) w:=e1;have f2:∀d w,(callFunc J d).run prog w= .ok (.enter J d) w:=e2;show Calls prog 324 #[fR s,fW h,fW l] W _;cases hps:p s with
  |true=>
   rw[hps]at g;generalize q s=r at o|-;go_enter func324,ntmps324
   go_wp21
   refine g.mono ?_;rintro e w' ⟨rfl,rfl⟩
   go_wp21
   refine o.mono ?_;rintro e w' ⟨rfl,rfl⟩;go_wp2;go_ret;simp
  |false=>
   rw[hps]at g;go_enter func324,ntmps324
   go_wp21
   refine g.mono ?_;rintro e w' ⟨rfl,rfl⟩;go_wp2;go_ret;simp
 .simp at f;rcases f with rfl|rfl|f|f
  .grind
  .grind
  .exact D.lt e f
  .exact H.lt e f
def abu (f:Nat) (l:List Nat) (v1:gh) (p:fN->Bool) (w:fO) (A:w.heap[f]?=some (fV #[v1] 89)) (n:nY l v1 p w):
  nY (f::l) (.func (.func 298) #[] #[fW f]) (λs=>!p s) w:=by
 refine⟨⟨_,_,rfl,enters_of func298 (by rfl) rfl,λW m s=>?_⟩,λe g=>?_⟩
 .have y:=fw (og m (by simp) A) 0;dsimp at y;obtain⟨o,H,rfl,e1,q⟩:=n.ex;have h:=q W (m.sub (λk D=>by simp[D])) s;have I:∀d w,(callFunc o d).run prog w= .ok (.enter o d) w:=e1;show Calls prog 298 #[fR s,fW f] W _;generalize p s=r at h|-;go_enter func298,ntmps298
  go_wp21
  refine h.mono ?_;rintro e w' ⟨rfl,rfl⟩;go_wp2;go_ret;simp
 .simp at g;rcases g with rfl|g
  .grind
  .exact n.lt e g
def acj (f g:List Nat) (v1 v2:gh) (p q:fN->Bool) (w:fO) (m:nY f v1 p w) (n:nY g v2 q w):
  Calls prog 245 #[v1,v2] w λe w'=>(∃v,e=gO v/\nY (w.heap.size::(w.heap.size+1)::(f++g)) v (λs=>p s||q s) w'/\w'.heap[w.heap.size]?=some (fV #[v1] 89)/\w'.heap[w.heap.size+1]?=some (fV #[v2] 89))/\Kept [] w w':=by
 have h:Calls prog 245 #[v1,v2] w λe w'=>e=gO (.func (.func 299) #[] #[fW w.heap.size,fW (w.heap.size+1)])/\w'=(w.alloc (fV #[v1] 89)).alloc (fV #[v2] 89):=by
  obtain⟨o,r,rfl,_,_⟩:=m.ex;obtain⟨d,y,rfl,_,_⟩:=n.ex;go_enter func245,ntmps245;go_wp2;go_ret;exact⟨by simp,rfl⟩
 refine h.mono ?_;rintro e w' ⟨rfl,rfl⟩;have o:Kept [] w (w.alloc (fV #[v1] 89)):=(Kept.refl _ _).alloc _;have d:=o.alloc (fV #[v2] 89);have l:=fB (w.alloc (fV #[v1] 89)) (fV #[v2] 89);rw[xa]at l;exact⟨⟨_,rfl,aed _ _ f g v1 v2 p q _ ((Below.heap_alloc _ _ _ (by simp)).trans (fB w _)) l (m.gJ d) (n.gJ d),(Below.heap_alloc _ _ _ (by simp)).trans (fB w _),l⟩,d⟩
def XV (f g:List Nat) (v1 v2:gh) (p q:fN->Bool) (w:fO) (m:nY f v1 p w) (n:nY g v2 q w):
  Calls prog 280 #[v1,v2] w λe w'=>(∃v,e=gO v/\nY (w.heap.size::(w.heap.size+1)::(f++g)) v (λs=>p s&&!q s) w'/\w'.heap[w.heap.size]?=some (fV #[v1] 89)/\w'.heap[w.heap.size+1]?=some (fV #[v2] 89))/\Kept [] w w':=by
 have h:Calls prog 280 #[v1,v2] w λe w'=>e=gO (.func (.func 324) #[] #[fW w.heap.size,fW (w.heap.size+1)])/\w'=(w.alloc (fV #[v1] 89)).alloc (fV #[v2] 89):=by
  obtain⟨o,r,rfl,_,_⟩:=m.ex;obtain⟨d,y,rfl,_,_⟩:=n.ex;go_enter func280,ntmps280;go_wp2;go_ret;exact⟨by simp,rfl⟩
 refine h.mono ?_;rintro e w' ⟨rfl,rfl⟩;have o:Kept [] w (w.alloc (fV #[v1] 89)):=(Kept.refl _ _).alloc _;have d:=o.alloc (fV #[v2] 89);have l:=fB (w.alloc (fV #[v1] 89)) (fV #[v2] 89);rw[xa]at l;exact⟨⟨_,rfl,aaH _ _ f g v1 v2 p q _ ((Below.heap_alloc _ _ _ (by simp)).trans (fB w _)) l (m.gJ d) (n.gJ d),(Below.heap_alloc _ _ _ (by simp)).trans (fB w _),l⟩,d⟩
def Zc (d:List Nat) (v1:gh) (p:fN->Bool) (w:fO) (g:nY d v1 p w):
  Calls prog 244 #[v1] w λe w'=>(∃v,e=gO v/\nY (w.heap.size::d) v (λs=>!p s) w'/\w'.heap[w.heap.size]?=some (fV #[v1] 89))/\Kept [] w w':=by
 have h:Calls prog 244 #[v1] w λe w'=>e=gO (.func (.func 298) #[] #[fW w.heap.size])/\w'=w.alloc (fV #[v1] 89):=by
  obtain⟨f,l,rfl,_,_⟩:=g.ex;go_enter func244,ntmps244;go_wp2;go_ret;exact⟨rfl,rfl⟩
 refine h.mono ?_;rintro e w' ⟨rfl,rfl⟩;have f:Kept [] w (w.alloc (fV #[v1] 89)):=(Kept.refl _ _).alloc _;exact⟨⟨_,rfl,abu _ d v1 p _ (fB w _) (g.gJ f),fB w _⟩,f⟩
open Go.ChangeMaps (setBlock)
def UU (a b:fN):(a==b)=ku a b:=by
 have h:(a==b)=(a.data==b.data):=rfl;rw[h]
 by_cases e:a=b
 .grind[ku]
 .rw[aaj.2 e];have:a.data≠b.data:=λd=>e (by cases a;simp_all)
  grind
def cM (e:MapEntry):gh×gh:=(e.key,e.val)
def cV (p:fN×gh):gh×gh:=(fR p.1,p.2)
def XM:List (fN×gh)->fN->Nat->Option (Nat×gh)
 |[],_,_=>none
 |p::L,k,i=>if ku k p.1 then some (i,p.2)else XM L k (i+1)
def Aj:List (fN×gh)->fN->Option gh
 |[],_=>none
 |p::L,k=>if ku k p.1 then some p.2 else Aj L k
def Co:List (fN×gh)->fN->gh->List (fN×gh)
 |[],k,v=>[(k,v)]
 |p::L,k,v=>if ku k p.1 then (k,v)::L else p::Co L k v
def Po:∀(L:List (fN×gh)) (k:fN) (i:Nat),(XM L k i).map (·.2)=Aj L k
 |[],_,_=>rfl
 |p::L,k,i=>by
  unfold XM Aj;split
  .rfl
  .exact Po L k (i+1)
def QM:∀(L:List (fN×gh)) (k:fN) (i:Nat) (v:gh),XM L k i=none->Co L k v=L++[(k,v)]
 |[],_,_,_,_=>rfl
 |p::L,k,i,v,h=>by
  unfold XM at h;split at h
  .cases h
  .rename_i d;unfold Co;rw[gn d,QM L k (i+1) v h];rfl
def Qw:∀(L:List (fN×gh)) (k:fN) (i j:Nat) (u v:gh),XM L k i=some (j,u)->∃n,j=i+n/\n < L.length/\(L[n]?).map (·.1)=some k/\Co L k v=L.set n (k,v)
 |[],_,_,_,_,_,h=>by cases h
 |p::L,k,i,j,u,v,h=>by
  unfold XM at h;split at h
  .rename_i d;cases h;refine⟨0,rfl,by simp,?_,?_⟩
   .simp[(xu.1 d)]
   grind[Co]
  .rename_i d;have⟨n,e1,e2,e3,e4⟩:=Qw L k (i+1) j u v h;refine⟨n+1,by omega,by grind,by grind,?_⟩
   grind[Co]
def OH (k:fN):∀(d:List MapEntry) (L:List (fN×gh)) (i:Nat),d.map cM=L.map cV->Instr.findNow .string (fR k) d i=some (XM L k i)
 |[],[],_,_=>rfl
 |[],_::_,_,h=>by simp at h
 |_::_,[],_,h=>by simp at h
 |e::d,p::L,i,h=>by
  simp only[zF,Pq]at h;have f:e.key=fR p.1:=ri Prod.fst h.1;have g:e.val=p.2:=ri Prod.snd h.1;unfold Instr.findNow XM;simp only[f,Instr.sameNow,UU];cases hf:ku k p.1
  .exact OH k d L (i+1) h.2
  grind
def sn (w:fO) (b:Nat) (L:List (fN×gh)):Prop:=∃f d,w.heap[b]?=some (.map f d)/\f.toList.map cM=L.map cV
def sn.keeps (h:sn w b L) (e:w'.heap[b]?=w.heap[b]?):sn w' b L:=by
 grind[sn]
def sn.lt (h:sn w b L):b < w.heap.size:=by
 have⟨es,clock,ha,_⟩:=h
 grind
def sn.kept (h:sn w b L) (f:Kept S w w') (d:b∉S):sn w' b L:=h.keeps (f.block b h.lt d)
def sn.new (w:fO):sn (w.alloc (.map #[] 0)) w.heap.size []:=⟨#[],0,fB w _,rfl⟩
def Bb (h:Kept S a w) (g:b∈S\/a.heap.size<=b) (o:Obj):Kept S a (setBlock w b o):=
 ⟨h.os,h.tape,h.output,by show a.heap.size<=(w.heap.setIfInBounds b o).size;rw[Qf];exact h.size,λk d f=>by
  show(w.heap.setIfInBounds b o)[k]?=_;rw[uM (by grind)];exact h.block k d f⟩
def DQ (h:b < w.heap.size) (o:Obj):(setBlock w b o).heap[b]?=some o:=by
 show(w.heap.setIfInBounds b o)[b]?=_
 grind
def Fb {E : TypeId} {z : gh} (g:prog.underlying T=some (.map 9 E)) (n:∀w,(zeroValue E).run prog w= .ok z w) (h:sn w b L) (k:fN):
  (Instr.lookup T (.map (some b)) (fR k) false).run prog w= .ok ((Aj L k).getD z) w:=by
 have⟨es,clock,ha,hl⟩:=h;have m:(underlying 9).run prog w= .ok .string w:=pE underlying9 _;have l:∀x,(Instr.checkKey x 10000 9 (fR k)).run prog w= .ok () w:=λx=>by
  unfold Instr.checkKey;simp
 have d:=OH k es.toList L 0 hl;have f:=Po L k 0;cases hq:XM L k 0 with
 |none=>
  rw[hq]at d f;rw[<-f];simp[Instr.lookup,pE g,JR ha,l,Instr.findKey,m,d,n,Result.andThen]
 |some p=>
  rw[hq]at d f;rw[<-f];simp[Instr.lookup,pE g,JR ha,l,Instr.findKey,m,d,Result.andThen]
def Pd {E : TypeId} (q:prog.underlying T=some (.map 9 E)) (h:sn w b L) (k:fN) (v:gh):
  ∃w',(Instr.mapUpdate T (.map (some b)) (fR k) v).run prog w= .ok () w'/\sn w' b (Co L k v)/\Kept [b] w w'/\w'.heap.size=w.heap.size:=by
 have f:=h.lt;have⟨es,clock,ha,hl⟩:=h;have y:(underlying 9).run prog w= .ok .string w:=pE underlying9 _;have r:∀x,(Instr.checkKey x 10000 9 (fR k)).run prog w= .ok () w:=λx=>by
  unfold Instr.checkKey;simp
 have g:=OH k es.toList L 0 hl;cases hq:XM L k 0 with
 |none=>
  rw[hq]at g;refine⟨setBlock w b (.map (es.push {key:=fR k,val:=v,born:=clock}) (clock+1)),?_,⟨_,_,DQ f _,?_⟩,Bb (Kept.refl _ _) (.inl (by simp)) _,?_⟩
  .simp[Instr.mapUpdate,pE q,JR ha,r,Instr.findKey,y,g,setObj,Sem.run,ha,setBlock,Result.andThen]
  .rw[QM L k 0 v hq];simp[hl,cM,cV]
  .show(w.heap.setIfInBounds b _).size=_;simp
 |some p=>
  have⟨j,u⟩:=p;rw[hq]at g;have⟨n,hj,hn,hkey,hput⟩:=Qw L k 0 j u v hq;have m:j=n:=by omega
  subst m;have s:es.size=L.length:=by have:=ri List.length hl;simpa using this
  have l:(es[j]?).map (·.key)=some (fR k):=by
   have d:(es.toList.map cM)[j]?=(L.map cV)[j]?:=by rw[hl]
   rw[List.getElem?_map,List.getElem?_map]at d;rw[Uf]at d;rw[pY hn]at hkey d;rw[xD (by omega)]at d|-;simp[cM,cV]at d hkey|-;rw[d.1,hkey]
  refine⟨setBlock w b (.map (es.modify j λe=>{e with key:=fR k,val:=v}) clock),?_,⟨_,_,DQ f _,?_⟩,Bb (Kept.refl _ _) (.inl (by simp)) _,?_⟩
  .have A:(Instr.keyThatStays (((es[j]?).map (·.key)).getD (fR k)) (fR k)).run prog w= .ok (fR k) w:=by
    rw[l];have o:(k==k)=true:=by rw[UU];exact xu.2 rfl
    simp[Instr.keyThatStays,Instr.sameBits,o]
   simp[Instr.mapUpdate,pE q,JR ha,r,Instr.findKey,y,g,A,setObj,Sem.run,ha,setBlock,Result.andThen]
  .rw[hput];apply List.ext_getElem?;intro i;have d:(es.toList.map cM)[i]?=(L.map cV)[i]?:=by rw[hl]
   grind[cM,cV]
  .show(w.heap.setIfInBounds b _).size=_;simp
section
variable {P:Program} {ops:Array Oper} {Q:Exit->Act->fO->Prop} {md:Region.Mode}
def yi {I:Array Bool->Act->fO->Prop}
  (m:∀d a w i,I d a w->i∈Region.ready md ops d->wpOp P ops Q i (I (d.setIfInBounds i true)) a w)
  (g:∀d a w,I d a w->Region.ready md ops d=[]->Q .normal a w):
  ∀f d a w,((List.range ops.size).filter (λi=>!d.getD i true)).length<=f->I d a w->wpAny P md ops Q f d a w:=by
 intro f
 induction f with
 |zero=>
  intro d a w R q;have r:(List.range ops.size).filter (λi=>!d.getD i true)=[]:=R3 (by omega);have A:Region.ready md ops d=[]:=by
   unfold Region.ready;rw[QY]at r|-;intro i l s;apply r i l;rw[rl]at s;exact s.1
  exact⟨A,g _ _ _ q A⟩
 |succ n ih=>
  intro d a w R q;refine⟨g _ _ _ q,λi l=>wpOp_mono (λD w' H=>ih _ D w' ?_ H) (m _ _ _ i q l)⟩;have o:i∈(List.range ops.size).filter (λi=>!d.getD i true):=by
   unfold Region.ready at l;rw[IA,rl]at l;exact List.mem_filter.2 ⟨l.1,l.2.1⟩
  have y:d.getD i true=false:=by
   have:=(List.mem_filter.1 o).2
   simpa using this
  have N:i < d.size:=by
   apply Decidable.byContradiction;intro h;rw[Rk,LO (by omega)]at y;simp at y
  have e:(List.range ops.size).filter (λj=>!(d.setIfInBounds i true).getD j true)=((List.range ops.size).filter (λj=>!d.getD j true)).filter (λj=>j != i):=by
   rw[List.filter_filter];refine List.filter_congr λj _=>?_
   by_cases J:j=i
   .simp_all
   .have:i≠j:=λh=>J h.symm
    simp_all
  rw[e];have:(((List.range ops.size).filter (λj=>!d.getD j true)).filter (λj=>j != i)).length < ((List.range ops.size).filter (λj=>!d.getD j true)).length:=by
   rw[List.length_filter_lt_length_iff_exists];exact⟨i,o,by simp⟩
  omega
end
def dn (z:Array Bool) (k:Nat):Bool:=z.getD k true
def cd (z:Array Bool) (k:Nat) (v:gh):gh:=cond (dn z k) v undef
def vf (md:Region.Mode) (ops:Array Oper) (i:Nat):List Nat:=
 match ops[i]? with|some o=>(o.after.toList.filter (Region.binds md)).map (·.on)|none=>[]
def rS:dn (z.setIfInBounds k true) k=true:=by
 simp[dn]
def oH (h:k≠j):dn (z.setIfInBounds k true) j=dn z j:=getD_set_ne true h
def pP {p : Prop} (h:dn z j=true->p) (d:k≠j):dn (z.setIfInBounds k true) j=true->p:=by
 rw[oH d];exact h
def kY (h:dn z k=true):cd z k v=v:=by unfold cd;grind
def adm (h:dn z k=false):cd z k v=undef:=by unfold cd;grind
def oG:cd (z.setIfInBounds k true) k v=v:=kY rS
def vC (h:k≠j):cd (z.setIfInBounds k true) j v=cd z j v:=by
 unfold cd;rw[oH h]
def ce (z:Array Bool) (k:Nat) (u v:gh):gh:=cond (dn z k) v u
def ZB (h:dn z k=true):ce z k u v=v:=by unfold ce;grind
def U4:ce (z.setIfInBounds k true) k u v=v:=ZB rS
def ac3 (h:k≠j):ce (z.setIfInBounds k true) j u v=ce z j u v:=by
 unfold ce;rw[oH h]
def xZ {n : Nat}:dn (Array.replicate n true) k=true:=by
 unfold dn;rw[Rk,Array.getElem?_replicate];grind
def vn {n : Nat}:cd (Array.replicate n true) k v=v:=kY xZ
def aab {n : Nat}:ce (Array.replicate n true) k u v=v:=ZB xZ
def mO {p : Nat->Prop}:∀k < 0,p k:=λ_ h=>absurd h (Nat.not_lt_zero _)
def mJ {p : Nat->Prop} {n : Nat} (t:∀k < n,p k) (h:p n):∀k < n+1,p k:=λk d=>by
 grind
def Dd (z:Array Bool) (i:Nat):List Nat->Prop
 |[]=>dn z i=false
 |j::l=>dn z j=true/\Dd z i l
def UC (h:z.getD i true=false):∀{l:List Nat},(∀j∈l,z.getD j true=true)->Dd z i l
 |[],_=>h
 |j::l,hl=>⟨hl j (xl ..),UC h λk d=>hl k (rj _ d)⟩
def yZ (md:Region.Mode) (ops:Array Oper):List (List Nat):=(List.range ops.size).map (vf md ops)
def Yy:Nat->List (List Nat)->Bool
 |_,[]=>true
 |i,l::ls=>l.all (· < i)&&Yy (i+1) ls
def Um:∀{d:List (List Nat)} {i k:Nat} {l:List Nat},Yy i d=true->d[k]?=some l->∀j∈l,j < i+k
 |l'::d,i,0,l,h,hk,j,hj=>by
  simp at hk;subst hk;simp[Yy]at h;grind
 |l'::d,i,k+1,l,h,hk,j,hj=>by
  simp[Yy]at h;have:=Um (i:=i+1) (k:=k) h.2 (by grind) j hj;omega
def abT:List (List Nat)->List (List Nat)->List (List Nat)
 |acc,[]=>acc
 |acc,l::ls=>abT (acc++[(l++l.flatMap λj=>acc.getD j []).eraseDups]) ls
def Gy:∀(g d:List (List Nat)),(∀k,dn z k=true->∀j∈d.getD k [],dn z j=true)->
  (∀k l,g[k]?=some l->dn z (d.length+k)=true->∀j∈l,dn z j=true)->∀k,dn z k=true->∀j∈(abT d g).getD k [],dn z j=true
 |[],d,h,_=>h
 |l::g,d,h,hl=>by
  refine Gy g _ ?_ ?_
  .intro k m j f;rw[uX]at f
   by_cases o:k < d.length
   .rw[Mo o]at f;exact h k m j (by grind)
   .by_cases q:k=d.length
    .subst q;simp at f;have n:=hl 0 l rfl m;rcases f with f|⟨i,r,f⟩
     .grind
     .exact h i (n i r) j (by grind)
    grind
  .intro k s m y j f;refine hl (k+1) s (by grind) ?_ j f
   grind
def QO:∀(g d:List (List Nat)),(∀k,∀j∈d.getD k [],j < k)->(∀k l,g[k]?=some l->∀j∈l,j < d.length+k)->∀k,∀j∈(abT d g).getD k [],j < k
 |[],d,h,_=>h
 |l::g,d,h,hl=>by
  refine QO g _ ?_ ?_
  .intro k j f;rw[uX]at f
   by_cases q:k < d.length
   .grind
   .by_cases m:k=d.length
    .subst m;simp at f;have o:=hl 0 l rfl;rcases f with f|⟨i,r,f⟩
     .grind
     .have:=h i j (by grind)
      grind
    grind
  .intro k n s j f;have:=hl (k+1) n (by grind) j f
   grind
def dM (n:Nat) (md:Region.Mode) (ops:Array Oper) (d:List (List Nat)):Bool:=
 d.length==ops.size&&n==ops.size&&Yy 0 (yZ md ops)&&(List.range ops.size).all λi=>(d.getD i []).all λj=>((abT [] (yZ md ops)).getD i []).contains j
section
variable {P:Program} {ops:Array Oper} {Q:Exit->Act->fO->Prop} {md:Region.Mode} {G:Type}
def pJ (Z:G->Array Bool->Act) (I:G->Array Bool->fO->Prop) (n:Nat) (q:List (List Nat)) {a:Act} {w:fO} (g:G)
  (D:dM n md ops q=true) (ha:a=Z g (Array.replicate n false)) (h0:I g (Array.replicate n false) w)
  (hs:∀i < n,∀g z W,I g z W->Dd z i (q.getD i [])->(∀j,i∈q.getD j []->dn z j=false)->
   wpOp P ops Q i (λa W'=>∃g,a=Z g (z.setIfInBounds i true)/\I g (z.setIfInBounds i true) W') (Z g z) W)
  (V:∀g W,I g (Array.replicate n true) W->Q .normal (Z g (Array.replicate n true)) W):
  wpAny P md ops Q ops.size (Array.replicate ops.size false) a w:=by
 subst ha;simp only[dM,rl,beq_iff_eq,LR,DI]at D;have⟨⟨⟨hnd,hn⟩,hl0⟩,hsub⟩:=D;have J:∀i < ops.size,∀j∈vf md ops i,j < i:=by
  intro i H j d;have:=Um (i:=0) (k:=i) (l:=vf md ops i) hl0 (by simp[yZ,H]) j d;omega
 rw[hn]at h0 hs V|-;have a2:∀i < ops.size,∀j∈q.getD i [],j < i:=by
  intro i H j d;have R:=hsub i H j d;refine QO (yZ md ops) [] (by simp) (λk l m=>?_) i j (by simpa using R);have s:k < ops.size:=by simpa [yZ]using (List.getElem?_eq_some_iff.1 m).1
  have:l=vf md ops k:=by simpa [yZ,s]using m.symm
  subst this
  simpa using J k s
 have A:∀z:Array Bool,(∀j,dn z j=true->∀k∈vf md ops j,dn z k=true)->∀i < ops.size,dn z i=true->∀j∈q.getD i [],dn z j=true:=by
  intro z N i H V j d;refine Gy (yZ md ops) [] (by simp) ?_ i V j (by grind);intro k l m V j d;have s:k < ops.size:=by simpa [yZ]using (List.getElem?_eq_some_iff.1 m).1
  have:l=vf md ops k:=by simpa [yZ,s]using m.symm
  subst this;exact N k (by simpa using V) j d
 have a0:∀z:Array Bool,z.size=ops.size->∀i,i∈Region.ready md ops z->z.getD i true=false/\i < ops.size/\∀j∈vf md ops i,z.getD j true=true:=by
  intro z N i H;have⟨a,o,ho,r⟩:=mem_ready.1 H;refine⟨a,(Array.getElem?_eq_some_iff.1 ho).1,λj d=>?_⟩;simp only[vf,ho,List.mem_map,IA]at d;obtain⟨e,⟨he,hb⟩,rfl⟩:=d;have R:=r e (by simpa using he) hb;rw[Rk]at R|-;cases hx:z[e.on]? with
  |none=>rfl
  |some b=>grind
 refine yi (I:=λz a W=>(z.size=ops.size/\∀j,dn z j=true->∀k∈vf md ops j,dn z k=true)/\∃g,a=Z g z/\I g z W) ?_ ?_ _ _ _ _ ?_ ⟨⟨by simp,λj d k m=>?_⟩,g,rfl,h0⟩
 .rintro z a W i ⟨⟨N,U⟩,g,rfl,hI⟩ H;have⟨a,b,c⟩:=a0 z N i H;have y:∀j,dn (z.setIfInBounds i true) j=true->∀k∈vf md ops j,dn (z.setIfInBounds i true) k=true:=by
   intro j d k m;have:dn z k=true:=by
    by_cases X:i=j
    .subst X;exact c k m
    .rw[oH X]at d;exact U j d k m
   by_cases Y:i=k
   .subst Y;exact rS
   .rw[oH Y];omega
  refine wpOp_mono (λa' W' h=>⟨⟨by simpa using N,λj d k m=>?_⟩,h⟩) (hs i b g z W hI (UC a λj d=>?_) λj d=>?_)
  .exact y j d k m
  .have hl:=a2 i b j d;have:=A _ y i b rS j d
   rwa [oH (by omega)]at this
  .rw[<-Bool.not_eq_true];intro a1
   by_cases f:j < ops.size
   .have:=A z U j f a1 i d;rw[show dn z i=false from a]at this;cases this
   grind
 .rintro z a W ⟨⟨N,_⟩,g,rfl,hI⟩ hr;have r:∀i,∀j≤i,z.getD j true=true:=by
   intro i
   induction i with
   |zero=>?_
   |succ i ih=>?_
   all_goals
    intro j d;rw[<-Bool.not_eq_false];intro hf;have f:j < ops.size:=by
     rw[<-N];apply Decidable.byContradiction;intro h;rw[Rk,LO (by omega)]at hf;simp at hf
    have:j∈Region.ready md ops z:=by
     refine mem_ready.2 ⟨hf,ops[j],by simp,λe he hb=>?_⟩;have hl:=J j f e.on (by simp only[vf,xD f,List.mem_map,IA];grind)
     first
     |omega
     |grind
    grind
  have a3:z=Array.replicate ops.size true:=by
   apply Array.ext
   .simpa using N
   .intro i R h2;have:=r i i (gr _);rw[Rk,xD R]at this
    simpa using this
  grind
 .grind
 .by_cases f:j < ops.size
  .simp[dn,f]at d
  .simp[vf,LO (Nat.le_of_not_lt f)]at m
end
inductive Nd
 |el (k:Nat)
 |tx (k:Nat)
 |cm (k:Nat)
 |dt (k:Nat)
def Nd.val:Nd->gh
 | .el k=> .iface 72 (fW k)
 | .tx k=> .iface 281 (fW k)
 | .cm k=> .iface 237 (fW k)
 | .dt k=> .iface 241 (fW k)
def Nd.one (n:Nd):n.val.oneCell'=true:=by cases n<;>rfl
def Up (ns:List Nd):∀x∈ns.map Nd.val,x.oneCell'=true:=by
 intro u d;obtain⟨x,_,rfl⟩:=List.mem_map.1 d;exact x.one
structure El (base:Nat) (w:fO) (k:Nat) (name:fN) (av:gh) (iJ:iM) (kv:gh) (ns:List Nd):Prop where
 gR:w.heap[k]?=some (fV #[fR name,av,kK iJ,kv] 140)
 row:w.ownsRow base 142 1 kv ns.length (ns.map Nd.val)
 le:ns.length<=1048576
 UG:∃ao n c,av= .slice ao n c
def El.mZ {ns:List Nd} (h:El base w k name av iJ kv ns) (l:w.heap[b]?=some (fV c t)) (n:t≠142):kv.ownBlock≠some b:=by
 intro d;rcases h.row.2 with⟨e,_⟩|⟨g,cap,f,e,_,m,_⟩
 .rw[e]at d;cases d
 .rw[e]at d;obtain rfl:=jr d
  grind
def El.kept {ns:List Nd} (h:El base w k name av iJ kv ns) (d:Kept S w w') (f:k∉S) (l:∀g,kv.ownBlock=some g->g∉S):El base w' k name av iJ kv ns:=
 ⟨d.at h.gR f,d.ownsRow h.row l,h.le,h.UG⟩
abbrev place (k n:Nat):gh:= .agg #[fW k,fK n]
def adN (base k:Nat) (name:fN) (av kv:gh) (iJ:iM) (ns:List Nd) (w:fO) (h:El base w k name av iJ kv ns):
  Calls prog 99 #[fW k] w λe w'=>e=gO (place k ns.length)/\Kept [] w w':=by
 obtain⟨ao,cap,rfl⟩:=fS h.row;have f:=fw h.gR 3;dsimp at f;have g:=iB h.gR;have d:=(Kept.refl [] w).alloc (fV #[fW k,fK ns.length] 235);go_enter func99,ntmps99;go_wp2;refine nK (v:=place k ns.length) ?_ rfl ⟨rfl,d⟩;simp[results,results99,asAddr,Result.andThen,go_sem]
def Ij (base k:Nat) (name:fN) (av kv:gh) (iJ:iM) (ns:List Nd) (w:fO) (h:El base w k name av iJ kv ns):
  Calls prog 275 #[fW k] w λe w'=>e=gO (fW w.heap.size)/\El base w' w.heap.size name av none (iQ) []/\Kept [] w w':=by
 have n:w.drew.cell? ⟨k,0,none⟩=some (fR name):=by show w.cell? _=_;rw[fw h.gR];rfl
 have o:w.drew.cell? ⟨k,1,none⟩=some av:=by show w.cell? _=_;rw[fw h.gR];rfl
 have f:=(Kept.refl [] w).drew.alloc (fV #[fR name,av,.pointer none,iQ] 140);have d:=(show El base (w.drew.alloc (fV #[fR name,av,.pointer none,iQ] 140)) w.heap.size name av none (iQ) []from⟨fB w.drew _,oD _ _ _ _,by simp,h.UG⟩);obtain⟨g,m,l,rfl⟩:=h.UG;go_enter func275,ntmps275
 go_wp21
 go_region;go_wp2;go_ret;exact⟨rfl,d,f⟩
def El.T8 {d : gh} {ns f:List Nd} (h:El base w k name av iJ kv ns) (q:w'.heap[k]?=w.heap[k]?) (n:w'.ownsRow base 142 1 d f.length (f.map Nd.val)) (r:f.length<=1048576):El base (w'.setCell ⟨k,3,none⟩ d) k name av iJ d f:=by
 have m:=q.trans h.gR;refine⟨fI m 3 d,tG (a:=⟨k,3,none⟩) n ?_ _,r,h.UG⟩;intro l;rcases n.2 with⟨e,_⟩|⟨g,cap,o,e,_,s,_⟩
 .rw[e]at l;cases l
 .rw[e]at l;obtain rfl:=jr l
  grind
def El.ZO {ns:List Nd} (h:El base w k name av iJ kv ns) (p:iM):El base (w.setCell ⟨k,2,none⟩ (kK p)) k name av p kv ns:=
 ⟨fI h.gR 2 (kK p),tG (a:=⟨k,2,none⟩) h.row (h.mZ h.gR (by decide)) _,h.le,h.UG⟩
def kL {a : Addr} (h:b≠a.block):(w.setCell a u).cell? ⟨b,j,none⟩=w.cell? ⟨b,j,none⟩:=YZ (Below.heap_setCell w a u b h)
def UI {X e : TypeId} (d:prog.underlying X=some (.pointer e)) (v:gh) (f:TypeId) (w:fO):(Instr.typeAssert (.iface X v) f X true).run prog w= .ok (.tuple #[v,.bool true]) w:=by
 simp[Instr.typeAssert,pE d]
def Fu {X e : TypeId} (g:prog.underlying X=some (.pointer e)) (f:(prog.info? X).bind (·.zero)=some (.pointer none)) (d:T≠X) (v:gh) (h:TypeId) (w:fO):(Instr.typeAssert (.iface T v) h X true).run prog w= .ok (.tuple #[.pointer none,.bool false]) w:=by
 have⟨i,hi,f⟩:=Option.bind_eq_some_iff.1 f;simp[Instr.typeAssert,pE g,d,zeroValue,typeInfo,hi,f]
structure Yg (base k:Nat) (name:fN) (av kv:gh) (iJ:iM) (ns:List Nd) (w w':fO):Prop where
 ex:∃kv',El base w' k name av iJ kv' ns/\(kv'.ownBlock=kv.ownBlock\/∀g,kv'.ownBlock=some g->w.heap.size<=g)
 kept:Kept (k::kv.ownBlock.toList) w w'
def QE (base k n:Nat) (name:fN) (av:gh) (iJ:iM) (ao:Option Addr) (cap:Nat) (ns:List Nd) (x:Nd) (q:TypeId) (o:gh) (w w1:fO) (h l m:Bool) (d:gh) (W:fO):Prop:=
 if m then Yg base k name av (.slice ao ns.length cap) iJ (ns.take n++[x]++ns.drop n) w W/\W.heap[w.heap.size]?=some (fV #[fW k,fK n] 235)
 else if l then W.ownsRow base 142 1 d (ns.length+1) ((ns.map Nd.val).take n++[.iface q o]++(ns.map Nd.val).drop n)/\Kept (Value.slice ao ns.length cap).ownBlock.toList w1 W/\(d.ownBlock=(Value.slice ao ns.length cap).ownBlock\/∀g,d.ownBlock=some g->w1.heap.size+1<=g)
 else if h then ∃f,Kept [] w1 f/\f.heap.size=w1.heap.size/\W=f.alloc (fV #[.iface q o] 142)
 else Kept [] w1 W/\W.heap.size=w1.heap.size
def QE.gR {n : Nat} {ns:List Nd} {x:Nd} {s : TypeId} {r : gh} {d f g : Bool} {m : gh} (h:QE base k n name av iJ ao cap ns x s r w w1 d f g m W) (l:w1.heap[w.heap.size]?=some (fV #[fW k,fK n] 235)) (o:w.heap.size∉(Value.slice ao ns.length cap).ownBlock.toList):W.heap[w.heap.size]?=some (fV #[fW k,fK n] 235):=by
 unfold QE at h;split at h
 .exact h.2
 split at h
 .exact h.2.1.at l o
 split at h
 .obtain⟨y,q,_,rfl⟩:=h;exact(q.alloc _).at l (by simp)
 .exact h.1.at l (by simp)
def QE.old {n : Nat} {ns:List Nd} {x:Nd} {m : TypeId} {l : gh} {d : Bool} {f : gh} (h:QE base k n name av iJ ao cap ns x m l w w1 d false false f W):Kept [] w1 W:=by
 unfold QE at h;simp only[rL,↓reduceIte]at h;split at h
 .obtain⟨o,g,_,rfl⟩:=h;exact g.alloc _
 grind
def acz {n : Nat} {ns:List Nd} {v' : gh} {f d : fO} (o:Kept [] w1 f) (r:f.heap.size=w1.heap.size) (m:W=f.alloc (fV #[u] 142)) (l:d.ownsRow base 142 1 v' (ns.length+1) ((ns.map Nd.val).take n++[u]++(ns.map Nd.val).drop n)) (h:Kept (Value.slice ao ns.length cap).ownBlock.toList W d) (q:v'.ownBlock=(Value.slice ao ns.length cap).ownBlock\/∀k,v'.ownBlock=some k->W.heap.size<=k):
  d.ownsRow base 142 1 v' (ns.length+1) ((ns.map Nd.val).take n++[u]++(ns.map Nd.val).drop n)/\Kept (Value.slice ao ns.length cap).ownBlock.toList w1 d/\(v'.ownBlock=(Value.slice ao ns.length cap).ownBlock\/∀g,v'.ownBlock=some g->w1.heap.size+1<=g):=by
 subst m;refine⟨l,((o.alloc _).mono (by simp)).trans h,?_⟩
 simp_all
def aaY {n : Nat} {f : Option Addr} {d : Nat} {ns:List Nd} {x:Nd} (h:El base w1 k name av iJ (.slice ao ns.length cap) ns) (J:Kept [] w w1) (X:w1.heap.size=w.heap.size+1) (H:w1.heap[w.heap.size]?=some (fV #[fW k,fK n] 235)) (q:k∉(Value.slice ao ns.length cap).ownBlock.toList) (o:w.heap.size∉(Value.slice ao ns.length cap).ownBlock.toList) (U:n<=ns.length) (R:ns.length < 1048576) (m:w.heap.size≠k) (r:x.val=u)
  (V:W.ownsRow base 142 1 (.slice f (ns.length+1) d) (ns.length+1) ((ns.map Nd.val).take n++[u]++(ns.map Nd.val).drop n)) (l:Kept (Value.slice ao ns.length cap).ownBlock.toList w1 W) (N:(Value.slice f (ns.length+1) d).ownBlock=(Value.slice ao ns.length cap).ownBlock\/∀g,(Value.slice f (ns.length+1) d).ownBlock=some g->w1.heap.size+1<=g):
  Yg base k name av (.slice ao ns.length cap) iJ (ns.take n++[x]++ns.drop n) w (W.setCell ⟨k,3,none⟩ (.slice f (ns.length+1) d))/\(W.setCell ⟨k,3,none⟩ (.slice f (ns.length+1) d)).heap[w.heap.size]?=some (fV #[fW k,fK n] 235):=by
 have s:(ns.take n++[x]++ns.drop n).length=ns.length+1:=by simp;omega
 have A:(ns.take n++[x]++ns.drop n).map Nd.val=(ns.map Nd.val).take n++[u]++(ns.map Nd.val).drop n:=by simp[r]
 have e2:=l.at h.gR q;have D:=l.at H o;refine⟨⟨⟨.slice f (ns.length+1) d,h.T8 (e2.trans h.gR.symm) (by grind) (by omega),?_⟩,?_⟩,?_⟩
 .grind
 .exact((J.mono (S':=k::(Value.slice ao ns.length cap).ownBlock.toList) (by simp)).next l (λy I=> .inl (rj _ I))).setCell (p:=⟨k,3,none⟩) (.inl (by simp)) _
 .rw[Below.heap_setCell W ⟨k,3,none⟩ _ _ m];exact D
def T6 (base k n:Nat) (name:fN) (av kv:gh) (iJ:iM) (ns:List Nd) (x:Nd) (w:fO) (h:El base w k name av iJ kv ns) (Y:n<=ns.length) (hl:ns.length < 1048576) (hb:base<=w.heap.size) (Z:fO->Prop)
  (hZ:∀wc,Yg base k name av kv iJ (ns.take n++[x]++ns.drop n) w wc->match x with
   | .el j=>(∃p,wc.cell? ⟨j,2,none⟩=some p)/\wc.frozen? ⟨j,2,none⟩=false/\Z (wc.setCell ⟨j,2,none⟩ (fW k))
   |_=>Z wc):
  Calls prog 175 #[place k n,x.val] w λe w'=>e=oS/\Z w':=by
 have ad:=iB h.gR;have a0:=h.row.lt;obtain⟨w1,hw1⟩:∃w1,w1=w.alloc (fV #[fW k,fK n] 235):=⟨_,rfl⟩;have k1:Kept [] w w1:=by rw[hw1];exact(Kept.refl _ _).alloc _
 have g1:w1.heap[w.heap.size]?=some (fV #[fW k,fK n] 235):=by rw[hw1];exact fB w _
 have z1:w1.heap.size=w.heap.size+1:=by rw[hw1];simp
 have R:=h.kept k1 (by simp) (by simp);obtain⟨ao,cap,rfl⟩:=fS h.row;have HI:∀W,Kept [] w1 W->W.heap.size=w1.heap.size->Calls prog 266 #[.slice ao ns.length cap,fK n,mW w1.heap.size 1 1] (W.alloc (fV #[x.val] 142)) (YY 142 base (.slice ao ns.length cap) ns.length n (ns.map Nd.val) x.val (W.alloc (fV #[x.val] 142))):=by
  intro W kW zW;have k2:Kept [] w1 (W.alloc (fV #[x.val] 142)):=kW.alloc _;have g2:=fB W (fV #[x.val] 142);rw[zW]at g2;exact acZ (.inr ⟨rfl,rfl,rfl,rfl,rfl,rfl⟩) base ns.length n w1.heap.size _ x.val (ns.map Nd.val) _ (k2.ownsRow R.row (λ_ _=>by simp)) g2 (λe=>by grind) x.one (Up ns) Y h.le (by grind)
 have f:=fx hZ;have H1:=fx R;have o:=fx HI;have a1:=fx k1;have D:=fx g1;have a3:=fx z1;have aa:=fx a0;have I:=fx (show k∉(Value.slice ao ns.length cap).ownBlock.toList by simpa using R.mZ R.gR (by decide));have H:=fx (show w.heap.size∉(Value.slice ao ns.length cap).ownBlock.toList by grind);have a8:w.heap.size≠k:=by omega
 have a2:=fx hw1;clear h R HI hZ k1 g1 z1 a0 hw1;obtain⟨y,s,d⟩:∃y s,x.val= .iface y s:=by cases x<;>exact⟨_,_,rfl⟩
 rw[d]at o|-;go_enter func175,ntmps175
 go_wp21
 rw[<-a2.out]
 go_cut []from 6 to 19 (λwc=>Yg base k name av (.slice ao ns.length cap) iJ (ns.take n++[x]++ns.drop n) w wc/\wc.heap[w.heap.size]?=some (fV #[fW k,fK n] 235))
 case first=>
  refine uN (by rfl) ?_;refine pJ (λ(g:gh) z=>⟨#[place k n,.iface y s,fW w.heap.size,undef,undef,undef,cd z 0 (fW w.heap.size),cd z 1 (fW k),cd z 2 (fW w.heap.size),cd z 3 (fW k),cd z 4 (fW k),cd z 5 (jp k 3),cd z 6 (.slice ao ns.length cap),cd z 7 (jp w.heap.size 1),cd z 8 (fK n),cd z 9 (.iface y s),cd z 10 (mW w1.heap.size 1 1),cd z 11 (g),cd z 12 (fW k),cd z 13 (jp k 3),undef,undef,undef,undef,undef,undef,undef,undef,undef,undef,undef],[]⟩) (λg z W=>QE base k n name av iJ ao cap ns x y s w w1 (dn z 10) (dn z 11) (dn z 14) g W) 15 [[],[0],[],[2],[3],[4],[5],[],[7],[],[9],[2,3,4,5,6,7,8,9,10],[1],[12],[0,1,2,3,4,5,6,7,8,9,10,11,12,13]] (undef) rfl (by rfl) (⟨(Kept.refl [] w1).drew,rfl⟩) ?_ ?_
  .repeat' first|exact mO|refine mJ ?_ ?_
   all_goals
    rintro g z W A U V;simp[Dd]at U;refine jE rfl ?_;intro K' m;simp only[kY,U];have gB:=A.gR D H;have ab:W.cell? ⟨w.heap.size,0,none⟩=some (fW k):=by rw[fw gB];rfl
    have ac:W.cell? ⟨w.heap.size,1,none⟩=some (fK n):=by rw[fw gB];rfl
    have q:=A
    try simp only[U]at q
    try rw[V 14 (by decide)]at q
    try rw[V 11 (by decide)]at q
    try (have cK:W.cell? ⟨k,3,none⟩=some (.slice ao ns.length cap):=(by rw[fw (q.old.at H1.out.gR (by simp))];rfl))
    go_simp
    first
    |refine m _ _ ⟨g,?_,(by rw[oH (by decide),oH (by decide),oH (by decide)];exact A)⟩
    |have q:Kept [] w1 W/\W.heap.size=w1.heap.size:=q;refine m _ _ ⟨g,?_,(by rw[rS,oH (by decide),oH (by decide),V 11 (by decide),V 14 (by decide)];grind[QE])⟩;simp[oG,vC,kY,U,q.2]
    |obtain⟨J,q1,q2,hq⟩:∃J,Kept [] w1 J/\J.heap.size=w1.heap.size/\W=J.alloc (fV #[.iface y s] 142):=q;have C:=fx (o J q1 q2);rw[<-hq]at C;refine C.mono ?_;rintro e W2 ⟨v',rfl,a9,a7,a6⟩;refine m _ _ ⟨v',?_,(by rw[rS,oH (by decide),oH (by decide),V 14 (by decide)];exact acz q1 q2 hq a9 a7 a6)⟩
    |obtain⟨ho,hk,hf⟩:W.ownsRow base 142 1 g (ns.length+1) ((ns.map Nd.val).take n++[Value.iface y s]++(ns.map Nd.val).drop n)/\Kept (Value.slice ao ns.length cap).ownBlock.toList w1 W/\(g.ownBlock=(Value.slice ao ns.length cap).ownBlock\/∀b,g.ownBlock=some b->w1.heap.size+1<=b):=q;obtain⟨a4,N,rfl⟩:=fS ho;have gK:=hk.at H1.gR I;have cK:W.cell? ⟨k,3,none⟩=some (.slice ao ns.length cap):=(by rw[fw gK];rfl);have zK:=fA gK 3;go_simp;refine m _ _ ⟨.slice a4 (ns.length+1) N,?_,(by rw[rS];exact aaY H1 a1 a3 D I H Y hl a8 d ho hk hf)⟩
    all_goals simp[oG,vC,kY,U]
  .rintro g W A;rw[xZ,xZ,xZ]at A;simp only[vn];rename_i JJ a5;refine a5 _ _ ?_;go_meet;exact A
 case rest=>
  have⟨hp,hbx⟩:=hcut;have l:=f _ hp;clear hp o H1 f;cases x with
  |el j=>
   have⟨⟨p,c2⟩,fz,l⟩:=l;have f:=fx l;injection d with e1 e2;subst e1 e2;have cb:wc.cell? ⟨w.heap.size,0,none⟩=some (fW k):=by rw[fw hbx];rfl
   have r:=UI (X:=72) underlying72;clear hbx l;go_wp2;go_end0;exact⟨rfl,f⟩
  |tx j=>
   have f:=fx l;injection d with e1 e2;subst e1 e2;have r:=Fu (X:=72) (T:=281) underlying72 rfl (by decide);clear l;go_wp2;go_end0;exact⟨rfl,f⟩
  |cm j=>
   have f:=fx l;injection d with e1 e2;subst e1 e2;have r:=Fu (X:=72) (T:=237) underlying72 rfl (by decide);clear l;go_wp2;go_end0;exact⟨rfl,f⟩
  |dt j=>
   have f:=fx l;injection d with e1 e2;subst e1 e2;have r:=Fu (X:=72) (T:=241) underlying72 rfl (by decide);clear l;go_wp2;go_end0;exact⟨rfl,f⟩
def Yn (base k n:Nat) (name:fN) (av kv:gh) (iJ:iM) (ns:List Nd) (x:Nd) (w:fO) (h:El base w k name av iJ kv ns) (g:n<=ns.length) (f:ns.length < 1048576) (d:base<=w.heap.size) (m:∀j,x≠ .el j):
  Calls prog 175 #[place k n,x.val] w λe w'=>e=oS/\Yg base k name av kv iJ (ns.take n++[x]++ns.drop n) w w':=by
 refine T6 base k n name av kv iJ ns x w h g f d _ λwc l=>?_
 grind
def R6 (base k n j:Nat) (name q:fN) (av kv m f:gh) (iJ l:iM) (ns r:List Nd) (w:fO) (h:El base w k name av iJ kv ns) (A:El base w j q m l f r) (D:j≠k) (V:∀g,f.ownBlock=some g->kv.ownBlock≠some g) (hn:n<=ns.length) (Z:ns.length < 1048576) (X:base<=w.heap.size):
  Calls prog 175 #[place k n,(Nd.el j).val] w λe w'=>e=oS/\(∃d,El base w' k name av iJ d (ns.take n++[.el j]++ns.drop n)/\(d.ownBlock=kv.ownBlock\/∀g,d.ownBlock=some g->w.heap.size<=g))/\El base w' j q m (some k) f r/\Kept (j::k::kv.ownBlock.toList) w w':=by
 refine T6 base k n name av kv iJ ns (.el j) w h hn Z X _ λwc J=>?_;have I:∀g,f.ownBlock=some g->g∉k::kv.ownBlock.toList:=by
  intro g Y o;rcases List.mem_cons.1 o with rfl|o
  .exact A.mZ h.gR (by decide) Y
  .grind
 have H:j∉k::kv.ownBlock.toList:=by
  intro o;rcases List.mem_cons.1 o with e|o
  .omega
  .exact h.mZ A.gR (by decide) (by grind)
 have s:=A.kept J.kept H I;have⟨d,E2,f2⟩:=J.ex;have R:wc.cell? ⟨j,2,none⟩=some (kK l):=by rw[fw s.gR];rfl
 have U:=fA s.gR 2;have N:El base (wc.setCell ⟨j,2,none⟩ (kK (some k))) k name av iJ d (ns.take n++[.el j]++ns.drop n):=
  ⟨by rw[Below.heap_setCell wc ⟨j,2,none⟩ _ k (xH D)];exact E2.gR,tG (a:=⟨j,2,none⟩) E2.row (E2.mZ s.gR (by decide)) _,E2.le,E2.UG⟩
 exact⟨⟨_,R⟩,U,⟨d,N,f2⟩,s.ZO (some k),(J.kept.mono (S':=j::k::kv.ownBlock.toList) (λy hy _=>rj _ hy)).setCell (p:=⟨j,2,none⟩) (.inl (by simp)) (kK (some k))⟩
def ZV:(prog.info? 142).map (λi=>(i.zero,i.size,i.bytes))=some (some (.nilIface),1,16):=by kernel_rfl
def Vo {l : List gh} {n : Nat} (d:i < j) (f:j<=n) (g:n<=l.length):
  ((l.take i++(l.take n).drop j++l.drop (i+(n - j))).take (n - (j - i)))=(l.take n).take i++(l.take n).drop j:=by
 have e:(l.take i++(l.take n).drop j).length=n - (j - i):=by simp;omega
 grind
def acE (g cap i j n:Nat) (f:jB) (w:fO) (o:w.heap[g]?=some (fV f 142)) (a4:n<=cap) (X:f.size=cap) (hi:i < j) (hj:j<=n) (a3:n<=1048576)
  (h1:∀u∈f.toList.take n,u.oneCell'=true):
  Calls prog 386 #[mW g n cap,fK i,fK j] w λe w'=>e=gO (mW g (n - (j - i)) cap)/\
   ∃q,w'.heap[g]?=some (fV q 142)/\q.size=cap/\q.toList.take (n - (j - i))=(f.toList.take n).take i++(f.toList.take n).drop j/\Kept [g] w w':=by
 obtain⟨i0,R,a5,Z,a6⟩:=tL ZV;obtain⟨d,m⟩:∃d,d=(f.toList.take n).drop j:=⟨_,rfl⟩;have r:d.length=n - j:=by rw[m];simp;omega
 have I:∀t u,d[t]?=some u->f[j+t]?=some u:=by
  intro t u D;rw[m,T1,EF]at D;split at D
  .grind
  .cases D
 obtain⟨A,hA,J⟩:∃A:Addr,(if cap=j then some (⟨g,0,none⟩:Addr)else some ⟨g,j,none⟩)=some A/\Hid (∀t u,d[t]?=some u->w.drew.cell? (A.add t)=some u):=by
  by_cases h:cap=j
  .refine⟨⟨g,0,none⟩,by simp[h],λt u D=>?_⟩
   grind
  .refine⟨⟨g,j,none⟩,by simp[h],λt u D=>?_⟩;rw[show(⟨g,j,none⟩:Addr).add t=⟨g,j+t,none⟩from by unfold Addr.add;simp];exact(fw o _).trans (I t u D)
 have s1:Hid (d.length=(n - j)*1):=by rw[Ds];exact r
 have s2:Hid (∀u∈d,u.oneCell'=true):=λu D=>h1 u (Jk (m▸D));have s3:Hid (∀t,t < d.length->(w.drew.cell? ⟨g,0+i*1+t,none⟩).isSome=true/\w.drew.frozen? ⟨g,0+i*1+t,none⟩=false):=by
  intro t Y;rw[r]at Y;refine⟨?_,fA o _⟩;show(w.cell? _).isSome=true;rw[fw o,xD (by omega)];rfl
 obtain⟨y,s⟩:∃y,y=w.drew.setCells g (0+i*1) d:=⟨_,rfl⟩;have H:y.heap[g]?=some (fV (iY f (0+i*1) d) 142):=by rw[s];exact jW d w.drew g f _ _ _ o
 have N:Kept [g] w y:=by rw[s];exact Kept.setCells (.inl (by simp)) d _ (Kept.refl _ _).drew
 have a0:∀ty,(Builtin.clear_ #[138] ty #[.slice (some ⟨g,i+(n - j),none⟩) (n - (i+(n - j))) (cap - (i+(n - j)))]).run prog y= .ok (.tuple #[]) (y.setCells g (i+(n - j)) (List.replicate (n - (i+(n - j))) (.nilIface))):=
  λty=>Lib.run_clear_slice y _ _ ty _ underlying138 Tryz.zeroValue142 rfl rfl g (i+(n - j)) _ _ (by omega) (λt Y=>by rw[fw H,xD (by rw[jd];omega)];rfl) (λt Y=>fA H _)
 have HB:=jW (List.replicate (n - (i+(n - j))) (Value.nilIface)) y g _ _ _ (i+(n - j)) H;have HK:=Kept.setCells (S:=[g]) (a:=w) (b:=g) (.inl (by simp)) (List.replicate (n - (i+(n - j))) (Value.nilIface)) (i+(n - j)) N;have U:(iY f (0+i*1) d).toList=f.toList.take (0+i*1)++d++f.toList.drop (0+i*1+d.length):=jX _ _ _ (by omega);have V:=jX (List.replicate (n - (i+(n - j))) (Value.nilIface)) (iY f (0+i*1) d) (i+(n - j)) (by rw[jd];grind);have HF:(iY (iY f (0+i*1) d) (i+(n - j)) (List.replicate (n - (i+(n - j))) (Value.nilIface))).toList.take (n - (j - i))=(f.toList.take n).take i++(f.toList.take n).drop j:=by
  rw[V,vw,Kc (by simp[jd];omega),U,r,m];rw[Ml,Pa (by omega)];have:=Vo (l:=f.toList) hi hj (by grind)
  simpa using this
 have HW:=fx s;have a1:i<=cap:=by omega
 have a2:j<=cap:=by omega
 clear s;go_enter func386,ntmps386
 go_wp21
 go_region_law (refine step_append_room rfl (.tmp 22) (.tmp 25) 138 rfl 142 i0 1 underlying138 R Z g 0 i cap (by simp[Act.eval,Act.put]) A (n - j) (cap - j) d (by simp[Act.eval,Act.put]) s1 J s2 (by omega) s3 ?_;rw[<-HW.out])
 go_wp2;go_ret;exact⟨by rw[show n - (j - i)=i+(n - j) by omega];rfl,_,HB,by rw[jd,jd];exact X,HF,HK⟩
def Nd.gR:Nd->Nat
 | .el k=>k
 | .tx k=>k
 | .cm k=>k
 | .dt k=>k
def Nd.cx:Nd->TypeId
 | .el _=>140
 | .tx _=>284
 | .cm _=>239
 | .dt _=>243
def AE (w:fO) (x:Nd):Prop:=∃c,w.heap[x.gR]?=some (fV c x.cx)
def Nd.gx (j:Nat):Nd->Bool
 | .el k=>k==j
 |_=>false
variable {ns : List Nd}
def dX:(prog.info? 72).map (λi=>i.comparable)=some true:=by kernel_rfl
def FF {U : TypeId} (f:T≠U) (w:fO):(binOp .eql 142 (.iface T v) (.iface U u)).run prog w= .ok (.bool false) w:=by
 have h:∀d:Nat,(Op.equalIn (d+1) 142 (.iface T v) (.iface U u)).run prog w= .ok false w:=λd=>by simp[Op.equalIn,pE underlying142,f]
 simp only[binOp];simp[Op.equal,Op.maxDepth,h 9999]
def adv {x : Nd} (l:AE w x) (g:AE w (.el j)):
  (binOp .eql 142 x.val (Nd.el j).val).run prog w= .ok (.bool (x.gx j)) w:=by
 obtain⟨i,f,d⟩:=Option.map_eq_some_iff.1 dX;have⟨q,hq,hqs⟩:=Option.map_eq_some_iff.1 U8;cases x with
 |el k=>
  by_cases h:k=j
  .subst h;have e:(Nd.el k).gx k=true:=by simp[Nd.gx]
   rw[e];exact run_eql_iface_ptr_same (P:=prog) w (⟨k,0,none⟩:Addr) underlying142 underlying72 f d hq
  .have⟨ca,ha⟩:=l;have⟨cb,hb⟩:=g;have e:(Nd.el k).gx j=false:=by simp[Nd.gx,h]
   rw[e];exact run_eql_iface_ptr_other (P:=prog) w (a:=⟨k,0,none⟩) (b:=⟨j,0,none⟩) underlying142 underlying72 f d hq (by omega) (by simp[h]) ha hb
 |tx k=>exact FF (by decide) w
 |cm k=>exact FF (by decide) w
 |dt k=>exact FF (by decide) w
def EV (x:Nd):∃T v,x.val= .iface T (.pointer v):=by cases x<;>exact⟨_,_,rfl⟩
def Rp (f j:Nat) (x:Nd) (w:fO) (l:w.cell? ⟨f,0,none⟩=some (fW j)) (h:AE w x) (g:AE w (.el j)):
  Calls prog 371 #[x.val,fW f] w λe w'=>e=gO (.bool (x.gx j))/\w'=w:=by
 have d:=adv h g;have⟨T,p,hv⟩:=EV x;rw[hv]at d|-;unfold Nd.val at d;generalize x.gx j=r at d|-;go_enter func371,ntmps371;go_wp2;go_ret;simp
def qc (ns:List Nd) (p:Nd->Bool):Int:=if ns.findIdx p < ns.length then (ns.findIdx p:Int)else -1
def abX {p : Nd->Bool} (f:k < ns.length) (g:p ns[k]=true) (d:∀j,(hj:j < ns.length)->j < k->p ns[j]=false):qc ns p=k:=by
 grind[qc]
def abJ {p : Nd->Bool} (d:∀j,(hj:j < ns.length)->p ns[j]=false):qc ns p= -1:=by
 grind[qc]
def abO (kv:gh) (ns:List Nd) (base o j:Nat) (w:fO) (ho:w.ownsRow base 142 1 kv ns.length (ns.map Nd.val)) (Y:∀x∈ns,AE w x) (U:AE w (.el j)) (R:w.cell? ⟨o,0,none⟩=some (fW j)) (V:ns.length<=1048576):
  Calls prog 370 #[kv,.func (.func 371) #[] #[fW o]] w λe w'=>e=gO (fK (qc ns (Nd.gx j)))/\w'=w:=by
 have H:=(λx hx=>Rp o j x w R (Y x hx) U);rcases ho.2 with⟨rfl,N⟩|⟨g,cap,q,rfl,_,l,Z,_,_,h⟩
 .have n:ns=[]:=R3 N;subst n;go_enter func370,ntmps370;go_wp2;refine vB 1 ?_;rw[oj];go_wp2;go_ret;simp[qc]
 .have I:∀k,(r:k < ns.length)->w.cell? ⟨g,k,none⟩=some ns[k].val:=by
   intro k r;rw[fw l];have:(q.toList.take (ns.length*1))[k]?=some ns[k].val:=by rw[h];simp[r]
   rw[EF]at this;split at this
   .grind
   .omega
  go_enter func370,ntmps370;go_wp2
  go_loopw [8] (λi wr=>∃k:Nat,k<=ns.length/\i=fK k/\wr=w/\∀m,(s:m < ns.length)->m < k->(ns[m]).gx j=false) (λi _=>ns.length - (intOf i).toNat)
  case atStart=>grind
  case round=>
   obtain⟨k,r,rfl,rfl,D⟩:=hrel
   by_cases f:k < ns.length
   .have J:=I k f;have d:=H ns[k] (tM f);have⟨T,p,hv⟩:=EV ns[k];rw[hv]at J d;cases hq:(ns[k]).gx j with
    |true=>
     rw[hq]at d;have y:=fx (abX f hq D)
     go_wp21
     refine d.mono ?_;rintro e w' ⟨rfl,A⟩;subst A;go_wp2;go_ret;exact⟨by rw[y.out];rfl,rfl⟩
    |false=>
     rw[hq]at d;have HQ:=hq
     go_wp21
     refine d.mono ?_;rintro e w' ⟨rfl,A⟩;subst A;go_wp2;go_roundw
     case rel=>
      refine⟨k+1,by omega,by go_num,by simp,λm s X=>?_⟩
      grind
     case measure=>simp[intOf];omega
   .have y:=fx (abJ (ns:=ns) (p:=Nd.gx j) (λm s=>D m s (by omega)));go_wp2;go_ret;exact⟨by rw[y.out];rfl,rfl⟩
def JE (base k j:Nat) (name:fN) (av kv:gh) (iJ:iM) (ns:List Nd) (w:fO) (h:El base w k name av iJ kv ns) (o:∀x∈ns,AE w x) (m:AE w (.el j)):
  Calls prog 348 #[fW k,fW j] w λe w'=>e=gO (fK (qc ns (Nd.gx j)))/\Kept [] w w':=by
 have d:Kept [] w (w.alloc (fV #[fW j] 72)):=(Kept.refl _ _).alloc _;have s:=fB w (fV #[fW j] 72);have f:∀x,AE w x->AE (w.alloc (fV #[fW j] 72)) x:=λx ⟨c,l⟩=>⟨c,d.at l (by simp)⟩;have H:=abO kv ns base w.heap.size j _ (d.ownsRow h.row (λ_ _=>by simp)) (λx r=>f x (o x r)) (f _ m) (by simp) h.le;have g:=fw h.gR 3;dsimp at g;have n:=iB h.gR;obtain⟨ao,cap,rfl⟩:=fS h.row;generalize qc ns (Nd.gx j)=q at H|-;go_enter func348,ntmps348
 go_wp21
 refine H.mono ?_;rintro e w' ⟨rfl,rfl⟩;go_wp2;go_ret
 simp_all
def IR (h:El base w k name av iJ kv ns) {m : Nat} (n:m < ns.length):∃g cap,kv=mW g ns.length cap/\w.cell? ⟨g,m,none⟩=some ns[m].val:=by
 rcases h.row.2 with⟨_,q⟩|⟨g,cap,l,rfl,_,f,o,_,_,d⟩
 .omega
 .refine⟨g,cap,rfl,?_⟩;rw[fw f];have:(l.toList.take (ns.length*1))[m]?=some ns[m].val:=by rw[d];simp[n]
  grind
def KZ (base k m l:Nat) (name d s:fN) (av kv:gh) (iJ:iM) (ns:List Nd) (w:fO) (h:El base w k name av iJ kv ns) (N:m < ns.length) (U:ns[m]= .tx l) (R:w.heap[l]?=some (fV #[fR d] 284)) (a4:d.size+s.size<=1048576):
  Calls prog 182 #[place k (m+1),fR s] w λe w'=>e=oS/\w'.heap[l]?=some (fV #[fR (d++s)] 284)/\Kept [l] w w':=by
 obtain⟨g,cap,rfl,V⟩:=IR h N;rw[U]at V;have a1:=iB h.gR;have a6:=iB R;have a2:=h.le;obtain⟨w1,f⟩:∃w1,w1=w.alloc (fV #[fW k,fK ((m+1:Nat))] 235):=⟨_,rfl⟩;have n:Kept [] w w1:=by rw[f];exact(Kept.refl _ _).alloc _
 have H:w1.heap[w.heap.size]?=some (fV #[fW k,fK ((m+1:Nat))] 235):=by rw[f];exact fB w _
 have I:=h.kept n (by simp) (by simp);have o:=n.at R (by simp);have r:=fw H 0;have y:=fw H 1;have A:=fw I.gR 3;dsimp at r y A;have Y:w1.cell? ⟨g,m,none⟩=some (Nd.tx l).val:=by
  have⟨g',cap',e,c⟩:=IR I N;injection e with e1;injection e1 with e2;injection e2 with e3;rw[e3,c,U]
 unfold Nd.val at Y;have D:=fw o 0;have fT:=fA o 0;dsimp at D;have a5:=UI (X:=281) underlying281;have q:=fx f;have a3:(m:Int) < ns.length:=by omega
 clear f;go_enter func182,ntmps182
 go_wp21
 rw[show((m+1:Nat):Int)=(m:Int)+1 by omega]at q;rw[<-q.out]
 go_quiet (fail)
 have Z:(w1.drewN nq).cell? ⟨l,0,none⟩=some (fR d):=D;have a0:(w1.drewN nq).frozen? ⟨l,0,none⟩=false:=fT;have J:=run_string_add_sum (P:=prog) (w1.drewN nq) d s (by omega);have HB:=fI (w:=w1.drewN nq) o 0 (fR (d++s));have HK:=((n.mono (S':=[l]) (by simp)).drewN nq).setCell (p:=⟨l,0,none⟩) (.inl (by simp)) (fR (d++s));go_wp2;refine nK (Gn rfl _ _ _) rfl ?_
 grind
def OL (base k n:Nat) (name s:fN) (av kv:gh) (iJ:iM) (ns:List Nd) (w:fO) (h:El base w k name av iJ kv ns) (hn:n<=ns.length) (Q:fO->Prop) (f:∀w1,Kept [] w w1->Calls prog 175 #[place k n,(Nd.tx w1.heap.size).val] (w1.alloc (fV #[fR s] 284)) λe w'=>e=oS/\Q w') (hx:∀m,(H:m < ns.length)->n=m+1->∀t,ns[m]≠ .tx t):
  Calls prog 182 #[place k n,fR s] w λe w'=>e=oS/\Q w':=by
 have a1:=iB h.gR;have a2:=h.le;obtain⟨w1,d⟩:∃w1,w1=w.alloc (fV #[fW k,fK n] 235):=⟨_,rfl⟩;have J:Kept [] w w1:=by rw[d];exact(Kept.refl _ _).alloc _
 have R:w1.heap[w.heap.size]?=some (fV #[fW k,fK n] 235):=by rw[d];exact fB w _
 have U:=h.kept J (by simp) (by simp);have A:=fw R 0;have o:=fw R 1;dsimp at A o;have l:=fx d;have r:w1.heap.size=w.heap.size+1:=by rw[d];simp
 by_cases h0:n=0
 .subst h0;have V:=f w1 J;rw[r,d]at V;have y:=(show Calls prog 175 #[.agg #[fW k,fK 0],.iface 281 (fW (w.heap.size+1))] ((w.alloc (fV #[fW k,fK 0] 235)).alloc (fV #[fR s] 284)) (λe w'=>e=oS/\Q w')from V);clear d r;go_enter func182,ntmps182
  go_wp21
  refine y.mono ?_;rintro e w' ⟨rfl,HR⟩;go_wp2;go_end0
  grind
 .obtain⟨m,rfl⟩:∃m,n=m+1:=⟨n - 1,by omega⟩;have H:m < ns.length:=by omega
  have a4:=hx m H rfl;have⟨g,cap,hkv,c4⟩:=IR U H;subst hkv;have D:=fw U.gR 3;dsimp at D;have I:∀(Z:TypeId) (w:fO),(Instr.typeAssert ns[m].val Z 281 true).run prog w= .ok (.tuple #[.pointer none,.bool false]) w:=by
   intro Z w;cases hq:ns[m]with
   |tx t=>grind
   |el t=>exact Fu (X:=281) underlying281 rfl (by decide) _ _ _
   |cm t=>exact Fu (X:=281) underlying281 rfl (by decide) _ _ _
   |dt t=>exact Fu (X:=281) underlying281 rfl (by decide) _ _ _
  have y:∀q,Calls prog 175 #[.agg #[fW k,fK ((m:Int)+1)],.iface 281 (fW w1.heap.size)] ((w1.drewN q).alloc (fV #[fR s] 284)) (λe w'=>e=oS/\Q w'):=
   λq=>f (w1.drewN q) (J.drewN q)
  have⟨xt,xp,hxv⟩:=EV ns[m];rw[hxv]at c4 I;have a3:(m:Int) < ns.length:=by omega
  have N:w1.cell? ⟨w.heap.size,1,none⟩=some (fK ((m:Int)+1)):=o;have Y:w.heap.size < w1.heap.size:=by omega
  rw[show((m+1:Nat):Int)=(m:Int)+1 by omega]at l;have a0:=fx r;clear d r;go_enter func182,ntmps182
  go_wp21
  rw[<-l.out]
  go_quiet (fail)
  go_wp21
  refine(y nq).mono ?_;rintro e w' ⟨rfl,HR⟩;go_wp2;go_end0
  grind
def AE.kept {x : Nd} (h:AE w x) (d:Kept [] w w'):AE w' x:=by
 have⟨c,hc⟩:=h;exact⟨c,d.at hc (by simp)⟩
def El.Xs (h:El base w k name av iJ kv ns):AE w (.el k):=⟨_,h.gR⟩
def Od (w:fO) (o:Obj):∃W,W=w.alloc o/\Kept [] w W/\W.heap[w.heap.size]?=some o/\W.heap.size=w.heap.size+1:=⟨_,rfl,(Kept.refl _ _).alloc _,fB w _,by simp⟩
def YS (base j:Nat) (name:fN) (av kv:gh) (ns:List Nd) (w:fO) (h:El base w j name av none kv ns):
  Calls prog 321 #[fW j] w λe w'=>e=gO (.tuple #[.agg #[.pointer none,fK 0],.bool false])/\Kept [] w w':=by
 have g:w.cell? ⟨j,2,none⟩=some (.pointer none):=(fw h.gR 2).trans rfl;have f:=iB h.gR;have d:=(Kept.refl [] w).alloc (fV #[.pointer none,fK 0] 235);go_enter func321,ntmps321;go_wp2;refine nK (v:= .tuple #[.agg #[.pointer none,fK 0],.bool false]) ?_ rfl ⟨rfl,d⟩;simp[results,results321,asAddr,Result.andThen,go_sem]
def VN (base j p:Nat) (name r:fN) (av kv n o:gh) (f:iM) (ns d:List Nd) (w:fO) (h:El base w j name av (some p) kv ns) (Z:El base w p r n f o d) (Y:∀x∈d,AE w x):
  Calls prog 321 #[fW j] w λe w'=>e=gO (.tuple #[.agg #[fW p,fK (qc d (Nd.gx j))],.bool true])/\Kept [] w w':=by
 have⟨w1,hw1,HK1,HG1,z1⟩:=Od w (fV #[.pointer none,fK 0] 235);have c2:w1.cell? ⟨j,2,none⟩=some (fW p):=(fw (HK1.at h.gR (by simp)) 2).trans rfl;have X:=iB h.gR;have l:j≠w.heap.size:=by omega
 have J:=(λ(W:fO) (I:Kept [] w W)=>JE base p j r n o f d W (Z.kept I (by simp) (λ_ _=>by simp)) (λx hx=>(Y x hx).kept I) (h.Xs.kept I));have R:w.cell? ⟨j,2,none⟩=some (fW p):=(fw h.gR 2).trans rfl;have D:=fx hw1;have N:=h.gR;clear hw1;generalize qc d (Nd.gx j)=q at J|-;go_enter func321,ntmps321
 go_wp21
 rw[<-D.out]
 go_region_held3 (λw'=>w'.cell? ⟨j,2,none⟩=some (fW p)) ((first|assumption|go_keep|exact(kL l).trans (by assumption)|exact(kL l).trans ((kL l).trans (by omega)))) ((go_at_call 348;refine(J _ HK1.drew).mono ?_;rintro e s ⟨rfl,g⟩;have H:Kept [] w s:=HK1.drew.trans g;have d2:s.cell? ⟨j,2,none⟩=some (fW p):=(fw (H.at N (by simp)) 2).trans rfl;have m:s.heap[w.heap.size]?=some (fV #[.pointer none,fK 0] 235):=((Kept.refl [] w1).drew.trans g).at HG1 (by simp);have e0:s.cell? ⟨w.heap.size,0,none⟩=some (.pointer none):=(fw m 0).trans rfl;have e1:s.cell? ⟨w.heap.size,1,none⟩=some (fK 0):=(fw m 1).trans rfl;have y0:=fA m 0;have y1:=fA m 1;have y:=fx m;have A:=fx H;clear m H g))
 all_goals (try (go_wp21))
 have U:=fI (fI y 0 (fW p)) 1 (fK q);have V:=fw U;refine nK (v:= .tuple #[.agg #[fW p,fK q],.bool true]) ?_ rfl ⟨rfl,(A.setCell (p:=⟨w.heap.size,0,none⟩) (.inr (gr _)) _).setCell (p:=⟨w.heap.size,1,none⟩) (.inr (gr _)) _⟩;simp[results,results321,asAddr,Result.andThen,go_sem,V]
def Sc (base j:Nat) (name:fN) (av kv:gh) (ns:List Nd) (w:fO) (h:El base w j name av none kv ns):
  Calls prog 374 #[fW j] w λe w'=>e=oS/\w'=w:=by
 have d:w.cell? ⟨j,2,none⟩=some (.pointer none):=(fw h.gR 2).trans rfl;go_enter func374,ntmps374;go_wp2;go_end0;simp
def ab5 {g : Nat} {f d : jB} (m:i < ns.length) (h:base<=g) (l:w'.heap[g]?=some (fV d 142)) (A:d.size=cap) (y:ns.length<=cap) (o:cap<=maxLen) (q:f.toList.take ns.length=ns.map Nd.val) (r:d.toList.take (ns.length - 1)=(f.toList.take ns.length).take i++(f.toList.take ns.length).drop (i+1)):
  w'.ownsRow base 142 1 (mW g (ns.length - 1) cap) (ns.eraseIdx i).length ((ns.eraseIdx i).map Nd.val):=by
 have n:(ns.eraseIdx i).length=ns.length - 1:=by rw[Zl m]
 have s:(ns.eraseIdx i).map Nd.val=(f.toList.take ns.length).take i++(f.toList.take ns.length).drop (i+1):=by
  rw[q,List.eraseIdx_eq_take_drop_succ,rp,List.map_take,List.map_drop]
 refine⟨by simp,.inr ⟨g,cap,d,by rw[n],h,l,by omega,o,by omega,?_⟩⟩
 grind
def UW (base p i g cap:Nat) (r:fN) (n:gh) (m:iM) (f:List Nd) (l:jB) (w:fO) (o q:Bool) (W:fO):Prop:=
 if q then (∃h,El base W p r n m h (f.eraseIdx i)/\h.ownBlock=some g)/\Kept [p,g] w W else if o then Kept [g] w W/\∃d,W.heap[g]?=some (fV d 142)/\d.size=cap/\d.toList.take (f.length - 1)=(l.toList.take f.length).take i++(l.toList.take f.length).drop (i+1)else Kept [] w W
def UW.any {p g : Nat} {o : fN} {f : gh} {d : iM} {q : List Nd} {n : jB} {l m : Bool} (h:UW base p i g cap o f d q n w l m W):Kept [p,g] w W:=by
 unfold UW at h;split at h
 .exact h.2
 split at h
 .exact h.1.mono (by simp)
 .exact h.mono (by simp)
def Gz (base j p i:Nat) (name I:fN) (av kv y s:gh) (o:iM) (ns d:List Nd) (w:fO) (h:El base w j name av (some p) kv ns) (D:El base w p I y o s d) (hn:∀x∈d,AE w x) (a8:j≠p) (a4:∀g,kv.ownBlock=some g->s.ownBlock≠some g) (hi:i < d.length) (N:qc d (Nd.gx j)=(i:Int)):
  Calls prog 374 #[fW j] w λe w'=>e=oS/\(∃n,El base w' p I y o n (d.eraseIdx i)/\n.ownBlock=s.ownBlock)/\El base w' j name av none kv ns/\Kept (j::p::s.ownBlock.toList) w w':=by
 obtain⟨g,cap,f,rfl,a5,m,r,a9,aa,a0⟩:∃g cap f,s=mW g d.length cap/\base<=g/\w.heap[g]?=some (fV f 142)/\d.length<=cap/\cap<=maxLen/\f.size=cap/\f.toList.take d.length=d.map Nd.val:=by
  rcases D.row.2 with⟨_,e0⟩|⟨g,cap,f,e,hb,m,r,hm,hs,ht⟩
  .omega
  .exact⟨g,cap,f,e,hb,m,r,hm,by omega,by grind⟩
 have CI:=fx (JE base p j I y _ o d w D hn h.Xs);rw[N]at CI;have a7:g≠p:=by have:=D.mZ D.gR (by decide);simpa [Value.ownBlock]using this
 have a6:g≠j:=by have:=D.mZ h.gR (by decide);simpa [Value.ownBlock]using this
 have c2:w.cell? ⟨j,2,none⟩=some (fW p):=(fw h.gR 2).trans rfl;have CD:Hid (∀(W:fO),Kept [] w W->Calls prog 386 #[mW g d.length cap,fK i,fK ((i:Int)+1)] W λe w'=>e=gO (mW g (d.length - 1) cap)/\
   ∃l,w'.heap[g]?=some (fV l 142)/\l.size=cap/\l.toList.take (d.length - 1)=(f.toList.take d.length).take i++(f.toList.take d.length).drop (i+1)/\Kept [g] W w'):=fx (λW hk=>by
  rw[show((i:Int)+1)=((i+1:Nat):Int) by omega];have al:=acE g cap i (i+1) d.length f W (hk.at m (by simp)) r aa (by omega) (by omega) D.le (by rw[a0];exact Up d)
  rwa [show i+1 - i=1 by omega]at al)
 have ap:(0:Int)<=(i:Int):=by omega
 have an:(i:Int) < 1048576:=by have:=D.le;omega
 have H:=fx h;have V:=fx D;have ab:=fx a4;have aj:=fx r;have ai:=fx a9;have ak:=fx a0;have HI:=fx hi;have ac:=fx a5;have U:=fx a8;have ae:=fx a7;have R:=fx a6;clear h D hn a4 r a9 a0 hi a5 a8 a7 a6 m aa N;go_enter func374,ntmps374
 go_wp21
 refine CI.out.mono ?_;rintro e w1 ⟨rfl,A⟩;have ag:=fx A;have d2:w1.cell? ⟨j,2,none⟩=some (fW p):=(fw (A.at H.out.gR (by simp)) 2).trans rfl;have d3:w1.cell? ⟨p,3,none⟩=some (mW g d.length cap):=(fw (A.at V.out.gR (by simp)) 3).trans rfl;clear A c2
 go_wp21
 refine uN (by rfl) ?_;refine pJ (λ(u:Unit) z=>⟨#[fW j,undef,fK i,fW j,fW j,jp j 2,fW p,.bool true,fW j,fW j,jp j 2,fW p,fW j,fK i,cd z 0 (fW j),cd z 1 (fW j),cd z 2 (jp j 2),cd z 3 (fW p),cd z 4 (fW j),cd z 5 (fW j),cd z 6 (jp j 2),cd z 7 (fW p),cd z 8 (fW p),cd z 9 (jp p 3),cd z 10 (mW g d.length cap),cd z 11 (fK i),cd z 12 (fK i),cd z 13 (fK ((i:Int)+1)),cd z 14 (mW g (d.length - 1) cap),cd z 15 (fW p),cd z 16 (jp p 3),undef,undef,undef],[]⟩) (λu z W=>UW base p i g cap I y o d f w (dn z 14) (dn z 17) W) 18 [[],[0],[1],[2],[],[4],[5],[6],[7],[8],[9],[],[],[12],[4,5,6,7,8,9,10,11,12,13],[3],[15],[0,1,2,3,4,5,6,7,8,9,10,11,12,13,14,15,16]] (()) rfl rfl (ag.out.drew) ?_ ?_
 .repeat' first|exact mO|refine mJ ?_ ?_
  all_goals
   rintro u z W hI hc hn;simp[Dd]at hc;refine jE rfl ?_;intro K' X;simp only[kY,hc];have c0:W.cell? ⟨j,2,none⟩=some (fW p):=(fw (hI.any.at H.out.gR (by have:=R.out;have:=U.out;simp;omega)) 2).trans rfl;have q:=hI
   try simp only[hc]at q
   try rw[hn 17 (by decide)]at q
   try rw[hn 14 (by decide)]at q
   try (have q:Kept [] w W:=q;have c3:W.cell? ⟨p,3,none⟩=some (mW g d.length cap):=(fw (q.at V.out.gR (by simp)) 3).trans rfl)
   go_simp
   try rw[show IntKind.i64.wrap ((i:Int)+1)=(i:Int)+1 by rw[IntKind.wrap_i64];omega]
   first
   |refine X _ _ ⟨u,?_,(by rw[oH (by decide),oH (by decide)];exact hI)⟩
   |refine(CD.out W q).mono ?_;rintro e w2 ⟨rfl,l,Y,a1,Z,am⟩;refine X _ _ ⟨u,?_,(by rw[rS,oH (by decide),hn 17 (by decide)];exact⟨(Kept.mono q (by simp)).trans am,l,Y,a1,Z⟩)⟩
   |have⟨q,l,Y,a1,Z⟩:=q;have g2:=q.at V.out.gR (by have:=ae.out;simp;omega);have c3:W.cell? ⟨p,3,none⟩=some (mW g d.length cap):=(fw g2 3).trans rfl;have y3:=fA g2 3;go_simp;refine X _ _ ⟨u,?_,(by rw[rS];exact⟨⟨_,V.out.T8 (g2.trans V.out.gR.symm) (ab5 HI.out ac.out Y a1 aj.out ai.out ak.out Z) (by rw[Zl HI.out];have:=V.out.le;omega),rfl⟩,(Kept.mono q (by simp)).setCell (p:=⟨p,3,none⟩) (.inl (by simp)) _⟩)⟩
   simp[oG,vC,kY,hc]
 .rintro u W hI;rw[xZ,xZ]at hI;simp only[vn];have⟨⟨n,hE,ho⟩,hk⟩:=hI;have J:=H.out.kept hk (by have:=R.out;have:=U.out;simp;omega) (λx hx=>by
   have h1:=ab.out x hx;have h2:=H.out.mZ V.out.gR (by decide);rw[hx]at h2;simp[Value.ownBlock]at h1 h2;simp;omega)
  have ad:=fx hE;have a2:=fx ho;have ah:=fx hk;have af:=fx (J.ZO none);have j2:W.cell? ⟨j,2,none⟩=some (fW p):=(fw J.gR 2).trans rfl;have z2:=fA J.gR 2;clear hE ho hk J;rename_i KK a3;refine a3 _ _ ?_;clear a3 KK;go_wp2;go_end0;refine⟨rfl,⟨n,ad.out.kept ((Kept.refl [j] W).setCell (p:=⟨j,2,none⟩) (.inl (by simp)) _) (by have:=U.out;simp;omega) (λx hx=>?_),a2.out⟩,af.out,?_⟩
  .rw[a2.out]at hx;have e:=jr hx;have:=R.out;simp;omega
  .refine(ah.out.mono (S':=j::p::[g]) ?_).setCell (p:=⟨j,2,none⟩) (.inl (by simp)) _;simp
structure Al where
 name:fN
 gy:kZ
 iJ:iM
 kids:List Nd
inductive Cd
 |el (e:Al)
 |tx (s:fN)
 |cm (s:fN)
 |dt (s:fN)
structure Ab where
 nodes:List Cd
 fQ:j5
 act:j5
 head:iM
 form:iM
 mode:Nat
 kept:Nat
 waiting:List (Nat×Nat×fN)
 iq:Bool
 iP:Bool
 gp:Nat
 behind:Bool
 mV:fN
 iA:Bool
 fresh:Bool
 pS:Nat
 rq:Nat
 oY:Nat
inductive qI (α:Type)
 |ok (a:α) (σ:Ab)
 |stop (e:Nat) (gp:Nat)
 |stuck
def M (α:Type):=Ab->qI α
namespace M
def pure {α:Type} (a:α):M α:=λσ=> .ok a σ
def bind {α d:Type} (m:M α) (f:α->M d):M d:=λσ=>match m σ with
 | .ok a σ'=>f a σ'
 | .stop e p=> .stop e p
 | .stuck=> .stuck
instance :Monad M where
 pure:=M.pure
 bind:=M.bind
end M
def M.fP {α d:Type} (m:M α) (f:α->M d) (σ:Ab):(m>>=f) σ=match m σ with
 | .ok a σ'=>f a σ'
 | .stop e p=> .stop e p
 | .stuck=> .stuck:=rfl
def stuck {α:Type}:M α:=λ_=> .stuck
def wj (f:Ab->Ab):M Unit:=λσ=> .ok () (f σ)
def Ab.gF (σ:Ab) (i:Nat):Option Al:=match σ.nodes[i]? with
 |some (.el e)=>some e
 |_=>none
def Ab.gx (σ:Ab) (x:iM):Bool:=match x with
 |none=>true
 |some i=>(σ.gF i).isSome
def Ab.lH (σ:Ab) (x:iM):Bool:=match x with
 |none=>false
 |some i=>(σ.gF i).isSome
def Ab.vL {σ:Ab} (h:σ.lH x=true):σ.gx x=true:=by
 cases x with
 |none=>rfl
 |some i=>exact h
def Ab.iR (σ:Ab):Nd->Bool
 | .el i=>(σ.gF i).isSome
 | .tx i=>match σ.nodes[i]? with|some (.tx _)=>true|_=>false
 | .cm i=>match σ.nodes[i]? with|some (.cm _)=>true|_=>false
 | .dt i=>match σ.nodes[i]? with|some (.dt _)=>true|_=>false
def Ab.gE (σ:Ab) (i:Nat) (e:Al):Ab:={σ with nodes:=σ.nodes.set i (.el e)}
def Ab.add (σ:Ab) (n:Cd):Ab:={σ with nodes:=σ.nodes++[n]}
def Ab.pi (σ:Ab) (n:Cd) (d:Bool):Ab:={σ with nodes:=σ.nodes++[n],fresh:=d}
variable {σ : Ab}
def ac2:fN:=fy
def acU:fN:=fM
def ng (s:fN):Bool:=ku s ac2||ku s acU
structure Wf (σ:Ab):Prop where
 fQ:∀x∈σ.fQ,σ.lH x=true
 act:∀x∈σ.act,σ.gx x=true
 head:σ.gx σ.head=true
 form:σ.gx σ.form=true
 iJ:∀i e,σ.gF i=some e->σ.gx e.iJ=true
 kids:∀i e,σ.gF i=some e->∀k∈e.kids,σ.iR k=true
 vc:(σ.gF 0).isSome=true
def Ab.gL {e : Al} (h:σ.gF i=some e):i < σ.nodes.length:=by
 unfold Ab.gF at h
 grind
def Ab.iX {e : Al} (h:σ.gF i=some e):σ.nodes[i]?=some (.el e):=by
 unfold Ab.gF at h
 grind
def Ab.TO {e : Al} (h:σ.nodes[i]?=some (.el e)):σ.gF i=some e:=by
 grind[Ab.gF]
def words (s:fN):List fN:=(Lib.fields s.data.toList).map λl=>⟨l.toArray⟩
def yV (L:List (fN×gh)) (ks:List fN) (v:gh):List (fN×gh):=ks.foldl (λL k=>Co L k v) L
def QK (L:List (fN×gh)) (ks:List fN) (v:gh) (n:Nat) (d:n < ks.length):yV L (ks.take (n+1)) v=Co (yV L (ks.take n) v) ks[n] v:=by
 unfold yV;rw[aap d,List.foldl_append];rfl
abbrev th (w:fO):Prop:=Lib.TabIs prog w "strings.asciiSpace" .u8 Lib.asciiSpaceTab
def pL (s:fN):Bool:=decide (s.size < 4096)&&s.data.toList.all (λb=>decide (b.toNat < 128))&&decide ((words s).length<=4096)
def L7 (s:fN) (w:fO) (d:pL s=true) (g:th w):
  Calls prog 96 #[fR s] w λe w'=>e=gO (mW w.heap.size (words s).length (words s).length)/\w'=w.alloc (fV ((words s).map Value.string).toArray 9):=by
 unfold pL at d;simp only[rl,Bh,LR]at d;have h:=Tryz.strings_Fields s w (by omega) (λj b f=>d.1.2 b (tK f)) g;refine h.mono ?_;rintro e w' ⟨rfl,rfl⟩;have e1:(words s).length=(Lib.fields s.data.toList).length:=by simp[words]
 refine⟨by rw[e1],?_⟩
 congr 2
 simp[words]
def afh (b:Nat) (s:fN) (v:gh) (L:List (fN×gh)) (w:fO) (o:pL s=true) (N:th w) (J:sn w b L):
  Calls prog 102 #[.map (some b),fR s,v] w λe w'=>e=gO (.map (some b))/\sn w' b (yV L (words s) v)/\Kept [b] w w':=by
 have m:(words s).length<=4096:=by
  unfold pL at o;simp only[rl,Bh]at o;exact o.2
 have D:=L7 s w o N;have I:=J;clear o N J;generalize words s=d at D m|-;go_enter func102,ntmps102
 go_wp21
 refine D.mono ?_;rintro e w1 ⟨rfl,h⟩;have U:w1.heap[w.heap.size]?=some (fV (d.map Value.string).toArray 9):=by rw[h];exact fB w _
 have H:Kept [] w w1:=by rw[h];exact(Kept.refl _ _).alloc _
 have y:=I.kept H (by simp);have R:b≠w.heap.size:=by have:=I.lt;omega
 clear h;go_wp2
 go_loopw [12] (λi wr=>∃k:Nat,k<=d.length/\i=fK k/\sn wr b (yV L (d.take k) v)/\Kept [b] w wr/\wr.heap[w.heap.size]?=some (fV (d.map Value.string).toArray 9)) (λi _=>d.length - (intOf i).toNat)
 case atStart=>exact⟨0,im _,rfl,y,H.mono (by simp),U⟩
 case round=>
  obtain⟨k,Y,rfl,g,l,f⟩:=hrel
  by_cases n:k < d.length
  .have X:wr.cell? ⟨w.heap.size,k,none⟩=some (fR d[k]):=by rw[fw f];simp[n]
   have⟨w2,r2,HM2,k2,z2⟩:=Pd (T:=170) (E:=168) (by simp) g d[k] v;have r:=l.trans k2;have q:=k2.at f (by grind);have HS:=fx (QK L d v k n);clear g l f k2 z2;go_wp2;go_roundw
   case rel=>exact⟨k+1,by omega,by go_num,by rw[HS.out];exact HM2,r,q⟩
   case measure=>simp[intOf];omega
  .have A:k=d.length:=by omega
   have V:=(show sn wr b (yV L d v) by grind);clear g f A;go_wp2;go_ret
   simp_all
def AF (L:List (fN×Nat)):List (fN×gh):=L.map λp=>(p.1,fK p.2)
def xb:List (fN×Nat)->fN->Nat
 |[],_=>0
 |p::L,k=>if ku k p.1 then p.2 else xb L k
def PF:List (fN×Nat)->fN->Nat->List (fN×Nat)
 |[],k,v=>[(k,v)]
 |p::L,k,v=>if ku k p.1 then (k,v)::L else p::PF L k v
def I4:∀(L:List (fN×Nat)) (k:fN),(Aj (AF L) k).getD (fK 0)=fK (xb L k)
 |[],_=>rfl
 |p::L,k=>by
  show(if ku k p.1 then some (Value.int .i64 (p.2:Int))else Aj (AF L) k).getD _=_;unfold xb;split
  .rfl
  .exact I4 L k
def Q9:∀(L:List (fN×Nat)) (k:fN) (v:Nat),Co (AF L) k (fK v)=AF (PF L k v)
 |[],_,_=>rfl
 |p::L,k,v=>by
  show(if ku k p.1 then (k,Value.int .i64 (v:Int))::AF L else (p.1,Value.int .i64 (p.2:Int))::Co (AF L) k _)=_;unfold PF;split
  .rfl
  .rw[Q9 L k v];rfl
def LC:∀(L:List (fN×Nat)) (k:fN) (v:Nat) (s:fN),xb (PF L k v) s=if ku s k then v else xb L s
 |[],k,v,s=>rfl
 |p::L,k,v,s=>by
  unfold PF
  by_cases d:ku k p.1=true
  .grind[xb,ku,PF]
  .rw[gn d];unfold xb;rw[LC L k v s]
   grind[ku]
def vm (L:List (fN×Nat)) (c:Nat) (ks:List fN):List (fN×Nat):=ks.foldl (λL k=>PF L k (xb L k|||c)) L
def Wt (L:List (fN×Nat)) (ks:List fN) (c n:Nat) (d:n < ks.length):vm L c (ks.take (n+1))=PF (vm L c (ks.take n)) ks[n] (xb (vm L c (ks.take n)) ks[n]|||c):=by
 unfold vm;rw[aap d,List.foldl_append];rfl
def age:∀a c:Fin 16,a.1|||c.1 < 16:=by decide
def td {c : Nat} (d:c < 16) (ks:List fN):∀(L:List (fN×Nat)),(∀s,xb L s < 16)->∀s,xb (vm L c ks) s < 16:=by
 induction ks with
 |nil=>simp[vm]
 |cons k ks ih=>
  intro L h;refine ih _ λs=>?_;rw[LC];split
  .exact age ⟨_,h k⟩ ⟨c,d⟩
  grind
def aet:∀a c:Fin 16,IntKind.i64.wrap (((BitVec.ofInt 64 (a.1:Int))|||(BitVec.ofInt 64 (c.1:Int))).toNat:Int)=((a.1|||c.1:Nat):Int):=by decide
def acC:∀a c:Fin 16,IntKind.i64.wrap (((BitVec.ofInt 64 (a.1:Int))&&& (BitVec.ofInt 64 (c.1:Int))).toNat:Int)=((a.1&&& c.1:Nat):Int):=by decide
def aaG (a c:Nat) (d:a < 16) (f:c < 16):bits .or .i64 (a:Int) (c:Int)=((a|||c:Nat):Int):=aet ⟨a,d⟩ ⟨c,f⟩
def Ym (a c:Nat) (d:a < 16) (f:c < 16):bits .and .i64 (a:Int) (c:Int)=((a&&& c:Nat):Int):=acC ⟨a,d⟩ ⟨c,f⟩
def adW (b:Nat) (s:fN) (c:Nat) (L:List (fN×Nat)) (w:fO) (H:pL s=true) (ht:th w) (hm:sn w b (AF L)) (hc:c < 16) (hL:∀s,xb L s < 16):
  Calls prog 62 #[.agg #[.map (some b)],fK c,fR s] w λe w'=>e=oS/\sn w' b (AF (vm L c (words s)))/\Kept [b] w w':=by
 have y:(words s).length<=4096:=by
  unfold pL at H;simp only[rl,Bh]at H;exact H.2
 have N:Kept [] w (w.alloc (fV #[.map (some b)] 92)):=(Kept.refl _ _).alloc _;have Y:=fB w (fV #[.map (some b)] 92);have HF:=L7 s (w.alloc (fV #[.map (some b)] 92)) H (Lib.tabIs_alloc ht _);have HM:=hm.kept N (by simp);have a0:=hm.lt;have HL:=hL;clear H ht hm hL;generalize words s=d at HF y|-;obtain⟨J,o⟩:∃J,J=w.alloc (fV #[.map (some b)] 92):=⟨_,rfl⟩;go_enter func62,ntmps62
 go_wp21
 refine HF.mono ?_;rintro e w1 ⟨rfl,l⟩;rw[<-o]at l Y N HM;have X:J.heap.size=w.heap.size+1:=by rw[o];simp
 have HG:w1.heap[w.heap.size+1]?=some (fV (d.map Value.string).toArray 9):=by rw[l,<-X];exact fB J _
 have R:Kept [] J w1:=by rw[l];exact(Kept.refl _ _).alloc _
 have U:=R.at Y (by simp);have HK:=N.trans R;have V:=HM.kept R (by simp);clear l R N Y;go_wp2
 go_loopw [11] (λi wr=>∃k:Nat,k<=d.length/\i=fK k/\sn wr b (AF (vm L c (d.take k)))/\Kept [b] w wr/\wr.heap[w.heap.size+1]?=some (fV (d.map Value.string).toArray 9)/\wr.heap[w.heap.size]?=some (fV #[.map (some b)] 92)) (λi _=>d.length - (intOf i).toNat)
 case atStart=>exact⟨0,im _,rfl,V,HK.mono (by simp),HG,U⟩
 case round=>
  obtain⟨k,hk,rfl,h,n,g,f⟩:=hrel
  by_cases D:k < d.length
  .have c1:wr.cell? ⟨w.heap.size+1,k,none⟩=some (fR d[k]):=by rw[fw g];simp[D]
   have c2:=fw f 0;dsimp at c2;have m:=td hc (d.take k) L HL d[k];have A:=Fb (T:=90) (E:=95) (z:=fK 0) (by simp) (by simp) h d[k];rw[I4]at A;have r:=aaG _ c m hc;have⟨w2,r2,HM2,k2,z2⟩:=Pd (T:=90) (E:=95) (by simp) h d[k] (fK ((xb (vm L c (d.take k)) d[k]|||c:Nat):Int));rw[Q9,<-Wt L d c k D]at HM2;have a3:=n.trans k2;have a2:=k2.at g (by grind);have a1:=k2.at f (by grind);obtain⟨q,hq⟩:∃q,q=xb (vm L c (d.take k)) d[k]:=⟨_,rfl⟩;rw[<-hq]at A r r2;obtain⟨q2,I⟩:∃q2:Nat,q2=q|||c:=⟨_,rfl⟩;rw[<-I]at r r2;clear h n g f k2 z2 hq I m;go_wp2;go_roundw
   case rel=>grind
   case measure=>simp[intOf];omega
  .have Z:k=d.length:=by omega
   have a4:=(show sn wr b (AF (vm L c d)) by grind);clear h g Z f;go_wp2;go_end0
   grind
def PC:List fN:=[jk,sv,tk,iK,iC,gu]
def ED:List fN:=[fy,ga,iD,gW,iC,fM,mQ,jx,lQ,lW,oz,qH,kC,lw,ld,mr,gZ,gC,iK,jk,sv,tk,fC,fH,fD,gu,fE,fG,fF,gq,gG,gH,gw,ig,iO]
def Kd:List fN:=[lw,ld,kC,fY,fJ,mQ]
def Uz:List fN:=[fy,fC,gG,gH,fH,gw]
def sy:List (fN×Nat):=vm (vm (vm (vm [] 1 PC) 2 ED) 4 Kd) 8 Uz
def th.kept (h:th w) (l:Kept S w w') (g:1∉S):th w':=by
 unfold th Lib.TabIs World.var? at *;have e:prog.globalNamed "strings.asciiSpace"=some 1:=rfl;simp only[e,Option.bind_some]at h|-;have d:1 < w.heap.size:=by
  rcases mq 1 w.heap.size with f|f
  .exact f
  .grind
 rw[l.block _ d g];exact h
def Hh (b:Nat) (s:fN) (c:Nat) (L:List (fN×Nat)) (ks:List fN) (w:fO) (l:pL s=true) (d:words s=ks) (m:th w) (h:sn w b (AF L)) (g:c < 16) (f:∀s,xb L s < 16):
  Calls prog 62 #[.agg #[.map (some b)],fK c,fR s] w λe w'=>e=oS/\sn w' b (AF (vm L c ks))/\Kept [b] w w':=by
 rw[<-d];exact adW b s c L w l m h g f
def PI:∀s,xb [] s < 16:=λ_=>Nat.zero_lt_succ 15
def BL (w:fO) (ht:th w):
  Calls prog 40 #[] w λe w'=>∃bm,e=gO (.agg #[.map (some bm)])/\sn w' bm (AF sy)/\Kept [] w w'/\w.heap.size<=bm:=by
 have a8:=@run_makeMap prog;obtain⟨W,f⟩:∃W,W=((w.alloc (fV #[.map none] 92)).alloc (.map #[] 0)).alloc (fV #[.map (some (w.heap.size+1))] 92):=⟨_,rfl⟩;have kW:Kept [] w W:=by rw[f];exact(((Kept.refl _ _).alloc _).alloc _).alloc _
 have H0:W.heap[w.heap.size]?=some (fV #[.map none] 92):=by
  rw[f,Below.heap_alloc _ _ _ (by simp;omega),Below.heap_alloc _ _ _ (by simp)];exact fB w _
 have g1:W.heap[w.heap.size+1]?=some (.map #[] 0):=by
  rw[f,Below.heap_alloc _ _ _ (by simp)];have:=fB (w.alloc (fV #[.map none] 92)) (.map #[] 0)
  rwa [xa]at this
 have H2:W.heap[w.heap.size+1+1]?=some (fV #[.map (some (w.heap.size+1))] 92):=by
  rw[f];have:=fB ((w.alloc (fV #[.map none] 92)).alloc (.map #[] 0)) (fV #[.map (some (w.heap.size+1))] 92)
  rwa [xa,xa]at this
 have HM:sn W (w.heap.size+1) (AF []):=⟨#[],0,g1,rfl⟩;have s:1∉[w.heap.size+1]:=by
  have a7:1 < w.heap.size:=by
   have h:=ht;unfold th Lib.TabIs World.var? at h;have e:prog.globalNamed "strings.asciiSpace"=some 1:=rfl;simp only[e,Option.bind_some]at h;rcases mq 1 w.heap.size with h'|h'
   .exact h'
   .grind
  intro r;have:=List.mem_singleton.1 r;omega
 have HT:=ht.kept kW (by simp);have HK:=kW.mono (S':=[w.heap.size+1]) (by simp);have HW:=fx f;clear f;go_enter func40,ntmps40
 go_wp21
 rw[<-HW.out];refine(Hh (w.heap.size+1) _ 1 [] PC W (by rfl) (by rfl) HT HM (by decide) PI).mono ?_;rintro e w1 ⟨rfl,a0,y⟩;have n:=HT.kept y s;have U:=HK.trans y;have I:=y.at H0 (by simp);have g:=fx (y.at H2 (by simp));have c1:=fw g.out 0;dsimp at c1
 go_wp21
 refine(Hh (w.heap.size+1) _ 2 (vm [] 1 PC) ED w1 rfl rfl n a0 (by decide) (td (by decide) _ _ PI)).mono ?_;rintro e w2 ⟨rfl,a1,A⟩;have o:=n.kept A s;have V:=U.trans A;have J:=A.at I (by simp);have l:=fx (A.at g (by simp));have c2:=fw l.out 0;dsimp at c2
 go_wp21
 refine(Hh (w.heap.size+1) _ 4 (vm (vm [] 1 PC) 2 ED) Kd w2 (by rfl) (by rfl) o a1 (by decide) (td (by decide) _ _ (td (by decide) _ _ PI))).mono ?_;rintro e w3 ⟨rfl,a2,D⟩;have q:=o.kept D s;have X:=V.trans D;have N:=D.at J (by simp);have m:=fx (D.at l (by simp));have c3:=fw m.out 0;dsimp at c3
 go_wp21
 refine(Hh (w.heap.size+1) _ 8 (vm (vm (vm [] 1 PC) 2 ED) 4 Kd) Uz w3 (by rfl) (by rfl) q a2 (by decide) (td (by decide) _ _ (td (by decide) _ _ (td (by decide) _ _ PI)))).mono ?_;rintro e w4 ⟨rfl,a3,H⟩;have a6:=q.kept H s;have Y:=X.trans H;have d:=fx (H.at N (by simp));have R:=fx (H.at m (by simp));have c4:=fw R.out 0;have f4:=fA d 0;have a5:=fw d.out 0;dsimp at c4 a5;have Z:=(Y.mono (S':=[]) (λk hk hl=>by grind)).setCell (p:=⟨w.heap.size,0,none⟩) (.inr (gr _)) (.map (some (w.heap.size+1)));have a4:=a3.keeps (w':=w4.setCell ⟨w.heap.size,0,none⟩ (.map (some (w.heap.size+1)))) (Below.heap_setCell w4 ⟨w.heap.size,0,none⟩ _ _ (by simp));have c5:=fw (fI d 0 (.map (some (w.heap.size+1)))) 0;go_wp2;refine nK (v:= .agg #[.map (some (w.heap.size+1))]) ?_ rfl ⟨w.heap.size+1,rfl,a4,Z,by omega⟩;simp[results,f40,go_sem,c5]
def VI (L:List (fN×Nat)) (c:Nat) (s:fN):Bool:=decide (xb L s&&& c≠0)
def kU:fN->Bool:=VI sy 2
def uR:fN->Bool:=VI sy 4
def io:fN->Bool:=VI sy 8
def UL:∀s,xb sy s < 16:=td (by decide) _ _ (td (by decide) _ _ (td (by decide) _ _ (td (by decide) _ _ PI)))
def ab0 (h l bm c:Nat) (L:List (fN×Nat)) (w:fO) (o:w.heap[h]?=some (fV #[.map (some bm)] 92)) (A:w.heap[l]?=some (fV #[fK c] 95)) (r:sn w bm (AF L)) (R:c < 16) (D:∀s,xb L s < 16):
  nY [h,l,bm] (.func (.func 63) #[] #[fW h,fW l]) (VI L c) w:=by
 refine⟨⟨_,_,rfl,enters_of func63 (by rfl) rfl,λW m s=>?_⟩,λe H=>?_⟩
 .have J:=fw (og m (by simp) o) 0;have N:=fw (og m (by simp) A) 0;dsimp at J N;have f:=Fb (T:=90) (E:=95) (z:=fK 0) (by simp) (by simp) (r.keeps (m bm (by simp))) s;rw[I4]at f;have d:=Ym _ c (D s) R;have I:VI L c s=decide (xb L s&&& c≠0):=rfl;rw[I];generalize xb L s=q at f d|-;obtain⟨n,g⟩:∃n:Nat,n=q&&& c:=⟨_,rfl⟩;rw[<-g]at d|-;clear o A r m D g I;show Calls prog 63 #[fR s,fW h,fW l] W _
  by_cases y:n=0
  .subst y;go_enter func63,ntmps63;go_wp2;go_ret;simp
  .have o:¬((n:Int)=0):=by omega
   rw[uJ y];go_enter func63,ntmps63;go_wp2;go_ret
   simp_all
 .simp at H;rcases H with rfl|rfl|rfl
  .grind
  .grind
  .exact r.lt
def aaQ (bB:Nat) (d:Int) (w:fO):
  Calls prog 106 #[fW bB,fK d] w λe w'=>e=gO (.func (.func 180) #[] #[fW w.heap.size,fW (w.heap.size+1)])/\w'=((w.alloc (fV #[fW bB] 121)).alloc (fV #[fK d] 177)):=by
 go_enter func106,ntmps106;go_wp2;go_ret;simp
def M1 (bB:Nat) (f:Fn) (d g:jB) (w:fO):
  Calls prog 98 #[fW bB,.func f d g] w λe w'=>e=gO (.func (.func 174) #[] #[fW w.heap.size])/\w'=(w.alloc (fV #[.func f d g] 211)):=by
 go_enter func98,ntmps98;go_wp2;go_ret;simp
def OK (bB:Nat) (f:Fn) (d g:jB) (w:fO):
  Calls prog 130 #[fW bB,.func f d g] w λe w'=>e=gO (.func (.func 227) #[] #[fW (w.heap.size+1),fW w.heap.size])/\w'=((w.alloc (fV #[fW bB] 121)).alloc (fV #[.func f d g] 69)):=by
 go_enter func130,ntmps130;go_wp2;go_ret;simp
def abr (f:Fn) (d g:jB) (w:fO):
  Calls prog 134 #[.func f d g] w λe w'=>e=gO (.func (.func 232) #[] #[fW w.heap.size])/\w'=(w.alloc (fV #[.func f d g] 69)):=by
 go_enter func134,ntmps134;go_wp2;go_ret;simp
def N6 (bB:Nat) (f:Fn) (d g:jB) (w:fO):
  Calls prog 142 #[fW bB,.func f d g] w λe w'=>e=gO (.func (.func 237) #[] #[fW w.heap.size,fW (w.heap.size+1)])/\w'=((w.alloc (fV #[fW bB] 121)).alloc (fV #[.func f d g] 168)):=by
 go_enter func142,ntmps142;go_wp2;go_ret;simp
def O9 (bB:Nat) (f:Fn) (d g:jB) (h:Int) (w:fO):
  Calls prog 127 #[fW bB,.func f d g,fK h] w λe w'=>e=gO (.func (.func 224) #[] #[fW w.heap.size,fW (w.heap.size+1),fW (w.heap.size+1+1)])/\w'=(((w.alloc (fV #[fW bB] 121)).alloc (fV #[.func f d g] 89)).alloc (fV #[fK h] 177)):=by
 go_enter func127,ntmps127;go_wp2;go_ret;simp
def Nz (bB:Nat) (f:Fn) (d g:jB) (l:fN) (h:Int) (w:fO):
  Calls prog 129 #[fW bB,.func f d g,fR l,fK h] w λe w'=>e=gO (.func (.func 226) #[] #[fW w.heap.size,fW (w.heap.size+1),fW (w.heap.size+1+1),fW (w.heap.size+1+1+1)])/\w'=((((w.alloc (fV #[fW bB] 121)).alloc (fV #[.func f d g] 89)).alloc (fV #[fR l] 9)).alloc (fV #[fK h] 177)):=by
 go_enter func129,ntmps129;go_wp2;go_ret;exact⟨by simp,rfl⟩
def K9:List TypeId:=[180,140,142,284,72,125,299,165,53,172,74]
def WL:List TypeId:=[180,140,142,284,72,125,299,165,172]
def Ql (h:t∈WL):t∈K9:=by
 revert t;decide
def Calm (w:fO) (e:Nat):Prop:=(∃f d,w.heap[e]?=some (.map f d))\/∃c t,w.heap[e]?=some (fV c t)/\t∉K9
def Fr (bs:Nat) (w w':fO):Prop:=∃S,Kept S w w'/\∀k∈S,k < w.heap.size->(∃c t m,w.heap[k]?=some (.cells c t m)/\t∈WL)/\bs<=k
def Fr.gv (h:Kept [] w w'):Fr bs w w':=⟨[],h,λ_ d=>by cases d⟩
def Fr.refl (w:fO):Fr bs w w:= .gv (Kept.refl _ _)
def Fr.size (h:Fr bs w w'):w.heap.size<=w'.heap.size:=by have⟨S,hk,_⟩:=h;exact hk.size
def Fr.calm (h:Fr bs w w') (l:Calm w e):w'.heap[e]?=w.heap[e]?:=by
 have⟨S,hk,hS⟩:=h;have d:e < w.heap.size:=by
  rcases l with⟨o,n,f⟩|⟨c,t,f,_⟩
  .grind
  .grind
 refine hk.block e d λq=>?_;have⟨⟨c,t,m,h2,ht⟩,_⟩:=hS e q d;rcases l with⟨o,n,f⟩|⟨r,s,f,g⟩
 .grind
 .rw[f]at h2;simp at h2;exact g (by rw[h2.2.1];exact Ql ht)
def Fr.trans {b c : fO} (h:Fr bs a b) (k:Fr bs b c):Fr bs a c:=by
 have⟨S1,k1,h1⟩:=h;have⟨S2,k2,h2⟩:=k;refine⟨S1++S2,(k1.mono (λx f _=>by simp[f])).trans (k2.mono (λx f _=>by simp[f])),λx f d=>?_⟩
 by_cases g:x∈S1
 .grind
 .have l:x∈S2:=by simpa [g]using f
  have⟨⟨cc,t,m,hc,ht⟩,hbs⟩:=h2 x l (lz d k1.size);exact⟨⟨cc,t,m,(k1.block x d g).symm.trans hc,ht⟩,hbs⟩
def Fr.jl (h:Kept S w w') (d:∀k∈S,(∃c t m,w.heap[k]?=some (.cells c t m)/\t∈WL)/\bs<=k):Fr bs w w':=⟨S,h,λk f _=>d k f⟩
def Fr.cell (h:Fr bs w w') (d:w.heap[e]?=some (fV c t)) (f:t∉K9):w'.heap[e]?=some (fV c t):=(h.calm (.inr ⟨c,t,d,f⟩)).trans d
def Fr.kept (h:Fr bs w w') (d:Kept [] a w) (l:a.heap.size<=bs):Kept [] a w':=by
 have⟨S,hS,hT⟩:=h;refine⟨hS.os.trans d.os,hS.tape.trans d.tape,hS.output.trans d.output,jC d.size hS.size,λk f _=>?_⟩;refine(hS.block k (lz f d.size) λg=>?_).trans (d.block k f (by simp));have:=(hT k g (lz f d.size)).2;omega
def Fr.zO (h:Fr bs w w') {m : Nat×Nat} (f:w.heap[e]?=some (.cells c t m)) (l:t∉WL):w'.heap[e]?=some (.cells c t m):=by
 have⟨S,hS,hT⟩:=h;have d:e < w.heap.size:=(Array.getElem?_eq_some_iff.1 f).1;refine(hS.block e d λg=>?_).trans f
 grind
def yu (bm:Nat) (w:fO) (e:Nat):Prop:=(e=bm/\∃f d,w.heap[e]?=some (.map f d))\/∃c t,w.heap[e]?=some (fV c t)/\t∉K9
def wS (bm:Nat) (w w':fO):Prop:=∃S,Kept S w w'/\∀k∈S,k < w.heap.size->(∃c t m,w.heap[k]?=some (.cells c t m)/\t∈K9)\/((∃f d,w.heap[k]?=some (.map f d))/\k≠bm)
def Fr.n (h:Fr bs w w') (bm:Nat):wS bm w w':=by
 have⟨S,hk,hS⟩:=h;exact⟨S,hk,λk d f=>by have⟨⟨c,t,m,h3,h4⟩,_⟩:=hS k d f;exact .inl ⟨c,t,m,h3,Ql h4⟩⟩
def wS.gv (h:Kept [] w w'):wS bm w w':=(Fr.gv (bs:=0) h).n bm
def wS.refl (bm:Nat) (w:fO):wS bm w w:= .gv (Kept.refl _ _)
def wS.size (h:wS bm w w'):w.heap.size<=w'.heap.size:=by have⟨S,hk,_⟩:=h;exact hk.size
def wS.of_map (h:Kept [b] w w') (l:∃f d,w.heap[b]?=some (.map f d)) (g:b≠bm):wS bm w w':=⟨[b],h,λk m _=>by grind⟩
def wS.calm (h:wS bm w w') (g:yu bm w e):w'.heap[e]?=w.heap[e]?:=by
 have⟨S,hk,hS⟩:=h;have f:e < w.heap.size:=by
  rcases g with⟨_,o,n,d⟩|⟨c,t,d,_⟩
  .grind
  .grind
 refine hk.block e f λA=>?_;rcases hS e A f with⟨c,t,m,y,I⟩|⟨⟨s,r,y⟩,D⟩
 .rcases g with⟨_,o,n,d⟩|⟨q,H,d,l⟩
  all_goals grind
 .rcases g with⟨e1,o,n,d⟩|⟨q,H,d,l⟩
  all_goals grind
def yu.fr (d:yu bm w e) (h:wS bm w w'):yu bm w' e:=by
 have e1:=h.calm d
 grind[yu]
def wS.trans {b c : fO} (h:wS bm a b) (k:wS bm b c):wS bm a c:=by
 have⟨S1,k1,h1⟩:=h;have⟨S2,k2,h2⟩:=k;refine⟨S1++S2,(k1.mono (λx d _=>by simp[d])).trans (k2.mono (λx d _=>by simp[d])),λx d g=>?_⟩
 by_cases f:x∈S1
 .grind
 .have l:x∈S2:=by simpa [f]using d
  have e:=k1.block x g f
  grind
def wS.cell (h:wS bm w w') (d:w.heap[e]?=some (fV c t)) (f:t∉K9):w'.heap[e]?=some (fV c t):=(h.calm (.inr ⟨c,t,d,f⟩)).trans d
def ya (w:fO):Prop:=th w/\∃c t,w.heap[1]?=some (fV c t)/\t∉K9
def ya.fr (d:ya w) (h:wS bm w w'):ya w':=by
 have⟨hb1,c,t,hc,ht⟩:=d;have e1:=h.calm (.inr ⟨c,t,hc,ht⟩);refine⟨?_,c,t,e1.trans hc,ht⟩;unfold th Lib.TabIs World.var? at hb1|-;have e:prog.globalNamed "strings.asciiSpace"=some 1:=rfl
 grind
def Ask (bm:Nat) (v:gh) (p:fN->Bool) (w:fO):Prop:=∃E,nY E v p w/\∀e∈E,yu bm w e
def Ask.fr (h:Ask bm v p w) (d:wS bm w w'):Ask bm v p w':=by
 have⟨E,hA,hC⟩:=h;exact⟨E,hA.keeps (λk g=>d.calm (hC k g)) d.size,λe f=>(hC e f).fr d⟩
def Ask.call (h:Ask bm v p w):∃k f,v= .func (.func k) #[] f/\(∀d w,(callFunc k d).run prog w= .ok (.enter k d) w)/\∀W,wS bm w W->∀s,Calls prog k (#[fR s]++f) W λe g=>e=gO (.bool (p s))/\g=W:=by
 have⟨E,hA,hC⟩:=h;have⟨k,f,hv,he,ha⟩:=hA.ex;exact⟨k,f,hv,he,λW m s=>ha W (λe l=>m.calm (hC e l)) s⟩
def MP (bm g cap:Nat) (d:List fN) (w:fO) (o:w.heap[g]?=some (fV (d.map Value.string).toArray 9)) (f:d.length<=4096):
  Calls prog 225 #[mW g d.length cap] w λe w'=>(∃v,e=gO v/\Ask bm v (gI d) w')/\Kept [] w w':=by
 refine(acR g cap d.length w).mono ?_;rintro e w' ⟨rfl,rfl⟩;have n:Kept [] w (w.alloc (fV #[mW g d.length cap] 204)):=(Kept.refl _ _).alloc _;have h:=fB w (fV #[mW g d.length cap] 204);have l:=n.at o (by simp);refine⟨⟨_,rfl,_,X3 _ g cap d _ h l f,λe m=>?_⟩,n⟩;simp at m;rcases m with rfl|rfl
 .exact .inr ⟨_,_,h,by decide⟩
 .exact .inr ⟨_,_,l,by decide⟩
def TV (bm c:Nat) (L:List (fN×Nat)) (w:fO) (q:sn w bm (AF L)) (o:c < 16) (n:∀s,xb L s < 16):
  Calls prog 41 #[.agg #[.map (some bm)],fK c] w λe w'=>(∃v,e=gO v/\Ask bm v (VI L c) w')/\Kept [] w w':=by
 have h:Calls prog 41 #[.agg #[.map (some bm)],fK c] w λe w'=>e=gO (.func (.func 63) #[] #[fW w.heap.size,fW (w.heap.size+1)])/\w'=(w.alloc (fV #[.map (some bm)] 92)).alloc (fV #[fK c] 95):=by
  go_enter func41,ntmps41;go_wp2;go_ret;exact⟨by simp,rfl⟩
 refine h.mono ?_;rintro e w' ⟨rfl,rfl⟩;have r:Kept [] w (w.alloc (fV #[.map (some bm)] 92)):=(Kept.refl _ _).alloc _;have l:=r.alloc (fV #[fK c] 95);have d:=fB (w.alloc (fV #[.map (some bm)] 92)) (fV #[fK c] 95);rw[xa]at d;have f:=(Below.heap_alloc (w.alloc (fV #[.map (some bm)] 92)) (fV #[fK c] 95) w.heap.size (by simp)).trans (fB w _);have m:=q.kept l (by simp);refine⟨⟨_,rfl,_,ab0 _ _ bm c L _ f d m o n,λe g=>?_⟩,l⟩;simp at g;rcases g with rfl|rfl|rfl
 .exact .inr ⟨_,_,f,by decide⟩
 .exact .inr ⟨_,_,d,by decide⟩
 .have⟨es,ck,ha,_⟩:=m;exact .inl ⟨rfl,es,ck,ha⟩
def LZ {d f : List Nat} {g h : Nat} (l:yu bm w g) (m:yu bm w h) (c1:∀e∈d,yu bm w e) (c2:∀e∈f,yu bm w e):∀e∈g::h::(d++f),yu bm w e:=by
 grind
def aeu (bm:Nat) (v1 v2:gh) (p q:fN->Bool) (w:fO) (m:Ask bm v1 p w) (n:Ask bm v2 q w):
  Calls prog 245 #[v1,v2] w λe w'=>(∃v,e=gO v/\Ask bm v (λs=>p s||q s) w')/\Kept [] w w':=by
 have⟨E1,a1,c1⟩:=m;have⟨E2,a2,c2⟩:=n;refine(acj E1 E2 v1 v2 p q w a1 a2).mono ?_;rintro e w' ⟨⟨v,rfl,l,g,h⟩,f⟩;exact⟨⟨v,rfl,_,l,LZ (.inr ⟨_,_,g,by decide⟩) (.inr ⟨_,_,h,by decide⟩) (λe d=>(c1 e d).fr (.gv f)) (λe d=>(c2 e d).fr (.gv f))⟩,f⟩
def acG (bm:Nat) (v1:gh) (p:fN->Bool) (w:fO) (l:Ask bm v1 p w):
  Calls prog 244 #[v1] w λe w'=>(∃v,e=gO v/\Ask bm v (λs=>!p s) w')/\Kept [] w w':=by
 have⟨E1,a1,c1⟩:=l;refine(Zc E1 v1 p w a1).mono ?_;rintro e w' ⟨⟨v,rfl,h,g⟩,f⟩;refine⟨⟨v,rfl,_,h,λe d=>?_⟩,f⟩;simp at d;rcases d with rfl|d
 .exact .inr ⟨_,_,g,by decide⟩
 .exact(c1 e d).fr (.gv f)
inductive Ru
 |nil
 |nothing
 |gz (f:Nat)
 |nJ (m:Int)
 |gm (pf:Nat) (own:Bool)
 |ahead (f:Nat)
 |ends (f:Nat)
 |GZ (r:Ru)
 |po (ks:List fN) (m:Int)
 |mh (ks:List fN) (name:fN) (m:Int)
 |item (ks:List fN)
abbrev gV (b:Nat):gh:=fW b
abbrev box (w:fO) (b:Nat) (v:gh) (t:TypeId):Prop:=w.heap[b]?=some (fV #[v] t)
def ny (bm bB bD:Nat):Ru->gh->fO->Prop
 | .nil,v,_=>v= .nilFunc
 | .nothing,v,_=>v= .func (.func 97) #[] #[]
 | .gz f,v,_=>v= .func (.func f) #[gV bB] #[]
 | .nJ m,v,w=>∃d g,v= .func (.func 180) #[] #[gV d,gV g]/\box w d (gV bB) 121/\box w g (fK m) 177
 | .gm pf own,v,w=>∃d,v= .func (.func 174) #[] #[gV d]/\box w d (.func (.func pf) #[gV (if own then bB else bD)] #[]) 211
 | .ahead f,v,w=>∃d g,v= .func (.func 227) #[] #[gV g,gV d]/\box w d (gV bB) 121/\box w g (.func (.func f) #[gV bB] #[]) 69
 | .ends f,v,w=>∃d,v= .func (.func 232) #[] #[gV d]/\box w d (.func (.func f) #[gV bB] #[]) 69
 | .GZ r,v,w=>∃d g u,v= .func (.func 237) #[] #[gV d,gV g]/\box w d (gV bB) 121/\box w g u 168/\ny bm bB bD r u w
 | .po ks m,v,w=>∃d g h u,v= .func (.func 224) #[] #[gV d,gV g,gV h]/\box w d (gV bB) 121/\box w g u 89/\Ask bm u (gI ks) w/\box w h (fK m) 177
 | .mh ks name m,v,w=>∃d g h l u,v= .func (.func 226) #[] #[gV d,gV g,gV h,gV l]/\box w d (gV bB) 121/\box w g u 89/\Ask bm u (gI ks) w/\box w h (fR name) 9/\box w l (fK m) 177
 | .item ks,v,w=>∃d g h n o,v= .func (.func 281) #[] #[gV d,gV g,gV h]/\box w d (gV bB) 121/\box w g n 89/\Ask bm n (gI ks) w/\box w h o 89/\Ask bm o (λs=>kU s&&!gI [jx,mQ] s) w
def box.fr (h:box w b v t) (d:wS bm w w') (f:t∉K9):box w' b v t:=d.cell h f
def ny.fr:∀{r:Ru} {v:gh} {w w':fO},ny bm bB bD r v w->wS bm w w'->ny bm bB bD r v w'
 | .nil,_,_,_,h,_=>h
 | .nothing,_,_,_,h,_=>h
 | .gz _,_,_,_,h,_=>h
 | .nJ _,_,_,_,⟨b1,b2,e,h1,h2⟩,hf=>⟨b1,b2,e,box.fr h1 hf (by decide),box.fr h2 hf (by decide)⟩
 | .gm _ _,_,_,_,⟨b1,e,h1⟩,hf=>⟨b1,e,box.fr h1 hf (by decide)⟩
 | .ahead _,_,_,_,⟨b1,b2,e,h1,h2⟩,hf=>⟨b1,b2,e,box.fr h1 hf (by decide),box.fr h2 hf (by decide)⟩
 | .ends _,_,_,_,⟨b1,e,h1⟩,hf=>⟨b1,e,box.fr h1 hf (by decide)⟩
 | .GZ _,_,_,_,⟨b1,b2,u,e,h1,h2,hr⟩,hf=>⟨b1,b2,u,e,box.fr h1 hf (by decide),box.fr h2 hf (by decide),hr.fr hf⟩
 | .po _ _,_,_,_,⟨b1,b2,b3,u,e,h1,h2,ha,h3⟩,hf=>⟨b1,b2,b3,u,e,box.fr h1 hf (by decide),box.fr h2 hf (by decide),ha.fr hf,box.fr h3 hf (by decide)⟩
 | .mh _ _ _,_,_,_,⟨b1,b2,b3,b4,u,e,h1,h2,ha,h3,h4⟩,hf=>⟨b1,b2,b3,b4,u,e,box.fr h1 hf (by decide),box.fr h2 hf (by decide),ha.fr hf,box.fr h3 hf (by decide),box.fr h4 hf (by decide)⟩
 | .item _,_,_,_,⟨b1,b2,b3,u1,u2,e,h1,h2,ha,h3,hb⟩,hf=>⟨b1,b2,b3,u1,u2,e,box.fr h1 hf (by decide),box.fr h2 hf (by decide),ha.fr hf,box.fr h3 hf (by decide),hb.fr hf⟩
def oB:List (List fN×Ru)->fN->Option Ru
 |[],_=>none
 |p::R,k=>if gI p.1 k then some p.2 else oB R k
def IsMap (bm bB bD b:Nat) (R:List (List fN×Ru)) (v:gh) (w:fO):Prop:=
 ∃L,v= .map (some b)/\sn w b L/\∀k,match oB R k with
  |some r=>∃u,Aj L k=some u/\ny bm bB bD r u w
  |none=>Aj L k=none
def IsMap.fr {R : List (List fN×Ru)} (h:IsMap bm bB bD b R v w) (f:wS bm w w') (d:w'.heap[b]?=w.heap[b]?):IsMap bm bB bD b R v w':=by
 have⟨L,e,hm,hr⟩:=h;refine⟨L,e,hm.keeps d,λk=>?_⟩;have:=hr k;cases hq:oB R k with
 |none=>grind
 |some r=>rw[hq]at this;have⟨u,hu,hi⟩:=this;exact⟨u,hu,hi.fr f⟩
def L0:∀(L:List (fN×gh)) (k:fN) (v:gh) (s:fN),Aj (Co L k v) s=if ku s k then some v else Aj L s
 |[],k,v,s=>rfl
 |p::L,k,v,s=>by
  unfold Co
  by_cases d:ku k p.1=true
  .grind[Aj,ku,Co]
  .rw[gn d];unfold Aj;rw[L0 L k v s]
   grind[ku]
def Pt (v:gh) (s:fN) (ks:List fN):∀(L:List (fN×gh)),Aj (yV L ks v) s=if gI ks s then some v else Aj L s:=by
 induction ks with
 |nil=>grind[Aj,yV,gI]
 |cons k ks ih=>
  intro L;show Aj (yV (Co L k v) ks v) s=_;rw[ih,L0]
  grind[gI]
def IsMap.at {R : List (List fN×Ru)} (h:IsMap bm bB bD b R v w):∃f d,w.heap[b]?=some (.map f d):=by
 have⟨L,e,⟨f,d,ha,_⟩,hr⟩:=h
 grind
def Sl (bm bB bD b:Nat) (s:fN) (ks:List fN) (r:Ru) (R:List (List fN×Ru)) (v:gh) (w:fO) (o:pL s=true) (h:words s=ks) (q:ya w) (n:IsMap bm bB bD b R (.map (some b)) w) (l:b≠bm) (y:ny bm bB bD r v w):
  Calls prog 102 #[.map (some b),fR s,v] w λe w'=>e=gO (.map (some b))/\IsMap bm bB bD b ((ks,r)::R) (.map (some b)) w'/\Kept [b] w w'/\wS bm w w':=by
 have f:=n.at;have⟨L,_,hM,hR⟩:=n;refine(afh b s v L w o q.1 hM).mono ?_;rintro e w' ⟨rfl,d,m⟩;have g:=wS.of_map m f l;rw[h]at d;refine⟨rfl,⟨_,rfl,d,λk=>?_⟩,m,g⟩;rw[Pt];unfold oB;cases hq:gI ks k with
 |true=>simp;exact y.fr g
 |false=>
  simp;have:=hR k;cases hq2:oB R k with
  |none=>grind
  |some r2=>rw[hq2]at this;have⟨u,hu,hi⟩:=this;exact⟨u,hu,hi.fr g⟩
def TY (bm bB bD:Nat) (w:fO):IsMap bm bB bD w.heap.size [] (.map (some w.heap.size)) (w.alloc (.map #[] 0)):=⟨[],rfl,sn.new w,λ_=>rfl⟩
end
end Go.Proofs.YtlhhgenpcjjajaaGreatDoor
