import Derived.WalkKit
import Derived.WalkSpells
import Derived.WalkLawsBesides
import Derived.Deep.Draws
import Derived.ArgAppend
import Derived.Laws.OwnMore
import Derived.LaidEqlPtr
import Derived.Deep.RegionLaw
import Derived.Lib.SliceRun
import Derived.Laws.IdiomCopy
import Derived.Shelf.RegionOpenPlain
import Derived.Lib.Overlaps
import Derived.Lib.AppendZerosOnto
import Derived.Laws.NewBlocks
import Derived.Laws.Externs
import Derived.Shelf.Spec.SlicesInsert
import Derived.RangeFuncNested
import Derived.RangeFuncBound
import Derived.RangeFuncCalls
import Derived.RangeFuncLeaves
import Derived.Shelf.Abstract
import Derived.Shelf.RegionOpen
import Derived.OwnWalkIn
import Derived.TacticsInMore
import Derived.LoopNIn
import Derived.LoopIn
import Derived.Maps.RangeRun
import Derived.Deep.RegionHeld3
import Derived.Deep.CutRange
import Derived.LaidEql
import Derived.Laws.IdiomStrings
import Derived.Laws.Concat
import Derived.Test.YtlhhgenpcjjajaaGreatDoorShelf
import Derived.Lib.ItoaMem
set_option linter.unusedSimpArgs false
set_option linter.unusedVariables false
set_option linter.defProp false
set_option maxHeartbeats 0
set_option maxRecDepth 100000
namespace Go.Proofs.YtlhhgenpcjjajaaGreatDoor
open Go.RowKit Tryz
def gW:=@Nat.le_refl
def j7:=@Nat.le_trans
def mi:=@Nat.lt_of_lt_of_le
def abk:=@World.cell?_of_block
def iX:=@lt_of_block
def UM:=@List.eq_nil_of_length_eq_zero
def od:=@World.ownsRow_nil
def SN:=@Sem.run_bind
def Aj:=@List.map_cons
def gV:=@if_neg
def gJ:=@if_pos
def Fc:=@List.getElem?_take
def ql:=@run_underlying
def wj:=@decide_eq_true
def yd:=@decide_eq_false
def uw:=@List.getElem_mem
def uj:=@wp_loop_rounds
def nU:=@rounds_succ
def uk:=@List.length_cons
def abj:=@List.take_succ_eq_append_getElem
def xH:=@Array.getElem?_eq_getElem
def jy:=@Option.some.inj
def ux:=@info_parts
def V0:=@List.getElem?_drop
def Fe:=@Nat.mul_one
def K5:=@List.mem_of_mem_drop
def wm:=@List.append_assoc
def K7:=@List.take_append_of_le_length
def Nr:=@List.take_take
def SI:=@Nat.min_eq_left
def V1:=@run_callFunc_extern
def BF:=@List.take_of_length_le
def Hk:=@List.drop_of_length_le
def Cw:=@List.append_nil
def sg:=@List.nil_append
def V2:=@run_copy_cells
def ye:=@Ne.symm
def zk:=@ownsRow_setCell_other
def si:=@List.mem_cons_of_mem
def abl:=@List.dropLast_eq_take
def qB:=@List.getElem?_eq_getElem
def sj:=@List.map_append
def uy:=@List.mem_of_getElem?
def Ns:=@List.reverse_append
def V5:=@List.eq_nil_or_concat
def Wb:=@List.dropLast_concat
def oR:=@bodyPost_ret
def Hl:=@results_none
def qC:=@World.putObj_heap_other
def yf:=@List.size_toArray
def xI:=@List.length_nil
def yg:=@Array.replicate_succ
def yh:=@Array.replicate_zero
def yi:=@List.push_toArray
def yj:=@List.append_toArray
def wo:=@List.cons_append
def SJ:=@List.getElem?_reverse
def Ff:=@List.take_add_one
def tJ:=@ByteArray.toList_eq
def abm:=@List.findIdx_lt_length_of_exists
def sn:=@congrArg
def xJ:=@World.size_alloc
def SK:=@List.cons.injEq
def SL:=@Array.size_setIfInBounds
def Cx:=@Array.getElem?_setIfInBounds_ne
def K8:=@MapKept.run_getObj_map
def Wc:=@Array.getElem?_toList
def SM:=@List.filter_eq_nil_iff
def sq:=@Bool.and_eq_true
def K9:=@List.mem_filter
def SO:=@Array.getD_eq_getD_getElem?
def La:=@Array.getElem?_eq_none
def yk:=@List.mem_cons_self
def vK:=@List.getD_eq_getElem?_getD
def Nt:=@List.getElem?_append_left
def Nu:=@List.all_eq_true
def Fg:=@List.mem_range
def uz:=@Bool.false_eq_true
def vL:=@wp_region_any
def j9:=@wpOp_step
def abn:=@List.length_eraseIdx_of_lt
def BG:=@decide_eq_true_eq
def iN:=@Nat.zero_le
def mO:=@Nat.lt_or_ge
abbrev gz:=ByteArray
abbrev gx:=World
abbrev gQ:=Value
abbrev lZ:=List (ByteArray×ByteArray)
abbrev kV:=List (Option Nat)
abbrev jk:=Option Nat
abbrev jN:=Array Value
@[simp,go_sem] abbrev jz:ByteArray:=⟨#[]⟩
@[simp,go_sem] abbrev Cz:ByteArray:=⟨#[10]⟩
@[simp,go_sem] abbrev lV:ByteArray:=⟨#[100,100]⟩
@[simp,go_sem] abbrev jW:ByteArray:=⟨#[100,105,118]⟩
@[simp,go_sem] abbrev rB:ByteArray:=⟨#[100,108]⟩
@[simp,go_sem] abbrev lW:ByteArray:=⟨#[100,116]⟩
@[simp,go_sem] abbrev iP:ByteArray:=⟨#[102,111,114,109]⟩
@[simp,go_sem] abbrev gZ:ByteArray:=⟨#[104,101,97,100]⟩
@[simp,go_sem] abbrev lX:ByteArray:=⟨#[104,105,100,100,101,110]⟩
@[simp,go_sem] abbrev vf:ByteArray:=⟨#[104,114]⟩
@[simp,go_sem] abbrev fY:ByteArray:=⟨#[104,116,109,108]⟩
@[simp,go_sem] abbrev mL:ByteArray:=⟨#[104,49]⟩
@[simp,go_sem] abbrev mM:ByteArray:=⟨#[104,50]⟩
@[simp,go_sem] abbrev BI:ByteArray:=⟨#[105]⟩
@[simp,go_sem] abbrev um:ByteArray:=⟨#[105,109,103]⟩
@[simp,go_sem] abbrev jI:ByteArray:=⟨#[105,110,112,117,116]⟩
@[simp,go_sem] abbrev lh:ByteArray:=⟨#[108,105]⟩
@[simp,go_sem] abbrev jm:ByteArray:=⟨#[109,101,116,97]⟩
@[simp,go_sem] abbrev ow:ByteArray:=⟨#[110,111,116,105,110,59]⟩
@[simp,go_sem] abbrev nF:ByteArray:=⟨#[110,111,116,105,110,69,59]⟩
@[simp,go_sem] abbrev ox:ByteArray:=⟨#[110,111,116,110,105,59]⟩
@[simp,go_sem] abbrev iK:ByteArray:=⟨#[110,111,98,114]⟩
@[simp,go_sem] abbrev gp:ByteArray:=⟨#[111,112,116,103,114,111,117,112]⟩
@[simp,go_sem] abbrev gP:ByteArray:=⟨#[111,112,116,105,111,110]⟩
@[simp,go_sem] abbrev gX:ByteArray:=⟨#[111,98,106,101,99,116]⟩
@[simp,go_sem] abbrev nG:ByteArray:=⟨#[112]⟩
@[simp,go_sem] abbrev nk:ByteArray:=⟨#[112,114,101]⟩
@[simp,go_sem] abbrev jb:ByteArray:=⟨#[115,101,108,101,99,116]⟩
@[simp,go_sem] abbrev iZ:ByteArray:=⟨#[115,116,121,108,101]⟩
@[simp,go_sem] abbrev iH:ByteArray:=⟨#[116,100]⟩
@[simp,go_sem] abbrev jJ:ByteArray:=⟨#[116,101,120,116,97,114,101,97]⟩
@[simp,go_sem] abbrev gr:ByteArray:=⟨#[116,102,111,111,116]⟩
@[simp,go_sem] abbrev iI:ByteArray:=⟨#[116,104]⟩
@[simp,go_sem] abbrev gv:ByteArray:=⟨#[116,104,101,97,100]⟩
@[simp,go_sem] abbrev p5:ByteArray:=⟨#[116,105,109,101,115]⟩
@[simp,go_sem] abbrev nH:ByteArray:=⟨#[116,105,109,101,115,98,59]⟩
@[simp,go_sem] abbrev jt:ByteArray:=⟨#[116,105,116,108,101]⟩
@[simp,go_sem] abbrev il:ByteArray:=⟨#[116,114]⟩
@[simp,go_sem] abbrev oq:ByteArray:=⟨#[116,121,112,101]⟩
@[simp,go_sem] abbrev fZ:ByteArray:=⟨#[116,97,98,108,101]⟩
@[simp,go_sem] abbrev gq:ByteArray:=⟨#[116,98,111,100,121]⟩
@[simp,go_sem] abbrev oZ:ByteArray:=⟨#[117,108]⟩
@[simp,go_sem] abbrev tm:ByteArray:=⟨#[194,160]⟩
@[simp,go_sem] abbrev p6:ByteArray:=⟨#[226,139,185,204,184]⟩
@[simp,go_sem] abbrev mZ:ByteArray:=⟨#[32,9,10,12]⟩
@[simp,go_sem] abbrev jp:ByteArray:=⟨#[32,9,10,12,47,62]⟩
@[simp,go_sem] abbrev p9:ByteArray:=⟨#[32,9,10,12,47,62,61]⟩
@[simp,go_sem] abbrev mN:ByteArray:=⟨#[32,9,10,12,62]⟩
@[simp,go_sem] abbrev lY:ByteArray:=⟨#[33,100,111,99,116,121,112,101]⟩
@[simp,go_sem] abbrev pD:ByteArray:=⟨#[34]⟩
@[simp,go_sem] abbrev uA:ByteArray:=⟨#[38]⟩
@[simp,go_sem] abbrev rW:ByteArray:=⟨#[38,103,116,59]⟩
@[simp,go_sem] abbrev lC:ByteArray:=⟨#[38,108,116,59]⟩
@[simp,go_sem] abbrev ny:ByteArray:=⟨#[38,110,98,115,112,59]⟩
@[simp,go_sem] abbrev o0:ByteArray:=⟨#[38,113,117,111,116,59]⟩
@[simp,go_sem] abbrev kB:ByteArray:=⟨#[38,97,109,112,59]⟩
@[simp,go_sem] abbrev tK:ByteArray:=⟨#[39]⟩
@[simp,go_sem] abbrev oS:ByteArray:=⟨#[45,45,62]⟩
@[simp,go_sem] abbrev zl:ByteArray:=⟨#[45,62]⟩
@[simp,go_sem] abbrev qG:ByteArray:=⟨#[60]⟩
@[simp,go_sem] abbrev np:ByteArray:=⟨#[60,33,45,45]⟩
@[simp,go_sem] abbrev iQ:ByteArray:=⟨#[60,33,68,79,67,84,89,80,69,32]⟩
@[simp,go_sem] abbrev qm:ByteArray:=⟨#[60,47]⟩
@[simp,go_sem] abbrev zm:ByteArray:=⟨#[61,34]⟩
@[simp,go_sem] abbrev iW:ByteArray:=⟨#[62]⟩
@[simp,go_sem] abbrev mj:ByteArray:=⟨#[78,101,119,76,105,110,101,59]⟩
@[simp,go_sem] abbrev uo:ByteArray:=⟨#[97]⟩
@[simp,go_sem] abbrev Hn:ByteArray:=⟨#[98]⟩
@[simp,go_sem] abbrev gI:ByteArray:=⟨#[98,111,100,121]⟩
@[simp,go_sem] abbrev kq:ByteArray:=⟨#[98,114]⟩
@[simp,go_sem] abbrev ic:ByteArray:=⟨#[98,117,116,116,111,110]⟩
@[simp,go_sem] abbrev iB:ByteArray:=⟨#[99,111,108]⟩
@[simp,go_sem] abbrev gn:ByteArray:=⟨#[99,111,108,103,114,111,117,112]⟩
@[simp,go_sem] abbrev nI:ByteArray:=⟨#[99,111,112,121,115,114,59]⟩
@[simp,go_sem] abbrev gy:ByteArray:=⟨#[99,97,112,116,105,111,110]⟩
abbrev gN (b:Nat):Value:=.pointer (some ⟨b,0,none⟩)
abbrev jO (b k:Nat):Value:=.pointer (some ⟨b,k,none⟩)
abbrev gh (n:Int):Value:=.int .i64 n
abbrev iw (v:Value):Ending:=.returned v
abbrev pE:Ending:=.returned (.tuple #[])
abbrev oe (b n c:Nat):Value:=.slice (some ⟨b,0,none⟩) n c
abbrev jc:Value:=.slice none 0 0
abbrev gL (c:Array Value) (t:TypeId):Obj:=.cells c t (0,0)
abbrev gH (s:ByteArray):Value:=.string s
section
variable {C c : jN} {E K S : List Nat} {L : List (gz×gQ)} {T t tB : TypeId} {W a w w' w1 : gx} {ao : Option Addr} {av kv u v : gQ} {b base bm bs cap e i j k : Nat} {name : gz} {p : gz->Bool} {jl x : jk} {xs : kV} {z : Array Bool}
def fV {p : Prop} (h:p):Hid p:=h
structure Kept (S:List Nat) (w w':gx):Prop where
 os:w'.os=w.os
 tape:w'.tape=w.tape
 output:w'.output=w.output
 size:w.heap.size<=w'.heap.size
 block:∀k,k < w.heap.size->k∉S->w'.heap[k]?=w.heap[k]?
def Kept.refl (S:List Nat) (w:gx):Kept S w w:=⟨rfl,rfl,rfl,gW _,λ_ _ _=>rfl⟩
def Kept.trans {b c : gx} (h:Kept S a b) (k:Kept S b c):Kept S a c:=
 ⟨k.os.trans h.os,k.tape.trans h.tape,k.output.trans h.output,j7 h.size k.size,λi d f=>(k.block i (mi d h.size) f).trans (h.block i d f)⟩
def Kept.mono {S' : List Nat} (h:Kept S w w') (l:∀k,k∈S->k < w.heap.size->k∈S'):Kept S' w w':=
 ⟨h.os,h.tape,h.output,h.size,λk d g=>h.block k d (λf=>g (l k f d))⟩
def Kept.next {S' : List Nat} {b c : gx} (h:Kept S a b) (k:Kept S' b c) (l:∀x∈S',x∈S\/a.heap.size<=x):Kept S a c:=
 ⟨k.os.trans h.os,k.tape.trans h.tape,k.output.trans h.output,j7 h.size k.size,λi d f=>(k.block i (mi d h.size) (λg=>by grind)).trans (h.block i d f)⟩
def Kept.drew (h:Kept S a w):Kept S a w.drew:=⟨h.os,h.tape,h.output,h.size,h.block⟩
def Kept.drewN (h:Kept S a w) (q:Nat):Kept S a (w.drewN q):=⟨h.os,h.tape,h.output,h.size,h.block⟩
def Kept.alloc (h:Kept S a w) (o:Obj):Kept S a (w.alloc o):=
 ⟨h.os,h.tape,h.output,j7 h.size (by simp),λk d f=>(Below.heap_alloc w o k (mi d h.size)).trans (h.block k d f)⟩
def Kept.setCell (h:Kept S a w) {p : Addr} (f:p.block∈S\/a.heap.size<=p.block) (u:gQ):Kept S a (w.setCell p u):=
 ⟨h.os,h.tape,h.output,by simpa using h.size,λk g l=>by
  have d:k≠p.block:=by
   rintro rfl;rcases f with f|f
   .grind
   .omega
  exact(Below.heap_setCell w p u k d).trans (h.block k g l)⟩
def Kept.grown {d : jk} (h:Kept S a w) (f:w.grownBy w' d) (n:∀k,d=some k->k∈S\/a.heap.size<=k):Kept S a w':=
 ⟨f.os.trans h.os,f.tape.trans h.tape,f.output.trans h.output,j7 h.size f.size,λk l o=>by
  have g:some k≠d:=by
   rintro rfl;rcases n k rfl with m|m
   .grind
   .omega
  exact(f.block k (mi l h.size) g).trans (h.block k l o)⟩
def Kept.below (h:Kept S w w') {B : Nat} (d:B<=w.heap.size) (l:∀k∈S,B<=k):Below B w w':=
 ⟨h.os,h.tape,h.output,h.size,λk f=>h.block k (mi f d) (λg=>by grind)⟩
def Kept.cell (h:Kept S w w') {p : Addr} (d:p.block < w.heap.size) (f:p.block∉S):w'.cell? p=w.cell? p:=abk (w:=w) (h.block p.block d f)
def Kept.at (h:Kept S w w') {o : Obj} (d:w.heap[k]?=some o) (f:k∉S):w'.heap[k]?=some o:=
 (h.block k (iX d) f).trans d
def yH {a : Nat} {g l : jN} {d f : TypeId} {m n : Nat×Nat} (o:w.heap[a]?=some (.cells g d m)) (q:w.heap[b]?=some (.cells l f n)) (h:d≠f):a≠b:=by
 grind
def fX (w:gx) (o:Obj):(w.alloc o).heap[w.heap.size]?=some o:=by
 show(w.heap.push o)[w.heap.size]?=some o;simp
def Kept.ownsRow (h:Kept S w w') {e : TypeId} {d : Nat} {n : Nat} {xs : List gQ} (q:w.ownsRow base e d v n xs) (s:∀k,v.ownBlock=some k->k∉S):w'.ownsRow base e d v n xs:=by
 have⟨h1,l⟩:=q;refine⟨h1,?_⟩;rcases l with l|⟨g,cap,f,rfl,m,o,r⟩
 .grind
 .exact .inr ⟨g,cap,f,rfl,m,(h.at o (s g rfl)),r⟩
section
variable {P:Program} (w:gx)
def jR {w:gx} {base d:Nat} {e:TypeId} {f:Nat} {v:gQ} {n:Nat} {xs:List gQ} (h:w.ownsRow base e f v n xs) (o:d<=base):w.ownsRow d e f v n xs:=by
 have⟨h1,m⟩:=h;refine⟨h1,?_⟩;rcases m with m|⟨g,cap,l,rfl,q,r⟩
 .grind
 .exact .inr ⟨g,cap,l,rfl,j7 o q,r⟩
def Oh {w w':gx} {d:jk} (h:w.grownBy w' none):w.grownBy w' d:=⟨h.os,h.tape,h.output,h.size,λk f _=>h.block k f (by simp)⟩
def Ax (base:Nat) (t N e:TypeId) (i:TypeInfo) (z:gQ) (d h:Nat) (X:P.underlying t=some (.slice e)) (R:P.info? e=some i) (hz:i.zero=some z)
  (q:i.size=d) (H:i.bytes=h) (J:z.cells.size=d) (I:0 < d)
  (v:gQ) (n:Nat) (xs:List gQ) (l:w.ownsRow base e d v n xs)
  (a:Addr) (m c:Nat) (f:List gQ) (V:f.length=m*d) (o:∀j u,f[j]?=some u->w.cell? (a.add j)=some u) (Z:∀u∈f,u.oneCell'=true)
  (D:n+m<=maxLen) (r:(n+m)*h<=140737488355328) (s:base<=w.heap.size):
  ∃y w',(Builtin.append_ #[t,t] N #[v,.slice (some a) m c]).run P w= .ok y w'/\w'.ownsRow base e d y (n+m) (xs++f)/\w.grownBy w' v.ownBlock/\
   (y.ownBlock=v.ownBlock\/∀k,y.ownBlock=some k->w.heap.size<=k):=by
 rcases l.2 with⟨rfl,rfl⟩|⟨g,cap,a0,rfl,a1,hg,a4,a2,a3,Y⟩
 .have hx:xs=[]:=UM (by simpa using l.1);subst hx;have⟨y,w',hr,ho,hgr,_⟩:=run_append_own (P:=P) w w.heap.size t N e i z d h X R hz q H J I (jc) 0 [] (od _ _ _ _) a m c f V o Z D r (gW _);exact⟨y,w',hr,jR ho s,hgr,.inr λk U=>(ho.lt k U).1⟩
 .by_cases A:n+m<=cap
  .have⟨w',hr,ho,hgr⟩:=run_append_fits (P:=P) w base t N e i d X R q g n cap xs l a m c f V o Z A;exact⟨_,w',hr,ho,hgr,.inl rfl⟩
  .have⟨y,w',hr,ho,hgr⟩:=run_append_arg_grows (P:=P) w t N e i z d h X R hz q H J I ⟨g,0,none⟩ n cap xs l.1 (l.cells (g:=g) rfl) a m c f V o (by omega) D r;exact⟨y,w',hr,jR ho s,Oh hgr,.inr λk U=>(ho.lt k U).1⟩
def iA {ops:Array Oper} {q:List Oper} {o:Oper} {a:Act} {Q:Exit->Act->gx->Prop} (R:o.guard=none) (s x:Operand) (t:TypeId)
  (ho:o.op= .call {callee:= .builtin .append,args:=#[s,x],argTypes:=#[t,t]})
  (base:Nat) (e:TypeId) (i:TypeInfo) (z:gQ) (d g:Nat) (ht:P.underlying t=some (.slice e)) (Z:P.info? e=some i) (hz:i.zero=some z)
  (A:i.size=d) (N:i.bytes=g) (V:z.cells.size=d) (U:0 < d)
  (v:gQ) (n:Nat) (xs:List gQ) (hs:a.eval s=v) (H:w.ownsRow base e d v n xs)
  (I:Addr) (m c:Nat) (f:List gQ) (hx:a.eval x= .slice (some I) m c) (hl:f.length=m*d) (y:∀j u,f[j]?=some u->w.cell? (I.add j)=some u) (X:∀u∈f,u.oneCell'=true)
  (J:n+m<=maxLen) (l:(n+m)*g<=140737488355328) (r:base<=w.heap.size)
  (h:∀D w',w'.ownsRow base e d D (n+m) (xs++f)->w.grownBy w' v.ownBlock->(D.ownBlock=v.ownBlock\/∀k,D.ownBlock=some k->w.heap.size<=k)->wpList P ops Q q (a.put o.dst D) w'):wpList P ops Q (o::q) a w:=by
 refine wpList_plain R λ_ Y=>?_;have⟨D,w',hr,h2,h3,h4⟩:=Ax (P:=P) w base t o.type e i z d g ht Z hz A N V U v n xs H I m c f hl y X J l r;unfold Oper.wp execOp;simp only[ho,resolve,invoke,builtin,SN,Sem.run_pure,Result.andThen_ok,List.map_toArray,Aj,List.map_nil,hs,hx,hr];exact Y _ _ (h D w' h2 h3 h4)
end
def kH (s:gz):List gQ:=s.data.toList.map λb=>Value.int .u8 b.toNat
def abt (s:gz):(kH s).length=s.size:=by
 simp[kH]
def Lj (s t:gz):kH (s++t)=kH s++kH t:=by
 simp[kH]
def Ta (s:gz):∀u∈kH s,u.oneCell'=true:=by
 intro u d;simp[kH]at d;obtain⟨b,_,rfl⟩:=d;rfl
def fW (h:w.heap[b]?=some (gL c t)) (j:Nat):w.cell? ⟨b,j,none⟩=c[j]?:=by simp[World.cell?,h]
def gu (h:w.heap[b]?=some (gL c t)) (j:Nat):w.frozen? ⟨b,j,none⟩=false:=by simp[World.frozen?,h]
def gm (h:w.heap[b]?=some (gL c t)) (j:Nat) (u:gQ):(w.setCell ⟨b,j,none⟩ u).heap[b]?=some (gL (c.setIfInBounds j u) t):=by
 have d:=iX h;simp only[World.setCell]
 grind
def gF {e : TypeId} {d : Nat} {n : Nat} {xs : List gQ} (h:w.ownsRow base e d v n xs):∃ao cap,v= .slice ao n cap:=by
 rcases h.2 with⟨rfl,l⟩|⟨g,cap,f,rfl,_⟩
 all_goals grind
def jg (g j:Nat):(⟨g,0,none⟩:Addr).add j=⟨g,j,none⟩:=by unfold Addr.add;grind
def ptr (x:jk):Option Addr:=x.map λk=>⟨k,0,none⟩
abbrev kI (x:jk):gQ:= .pointer (ptr x)
def iE (xs:kV) (n:Int):jk:=if 0<=n/\n < xs.length then xs.getD n.toNat none else none
structure xR (base b j:Nat) (tB:TypeId) (C:jN) (v:gQ) (xs:kV) (w:gx):Prop where
 iC:w.heap[b]?=some (gL C tB)
 cell:C[j]?=some v
 row:w.ownsRow base 72 1 v xs.length (xs.map kI)
 ne:tB≠72
 le:xs.length<=4096
def xR.at (h:xR base b j tB C v xs w):w.cell? ⟨b,j,none⟩=some v:=by rw[fW h.iC];exact h.cell
def aef (base b j:Nat) (tB:TypeId) (C:jN) (v:gQ) (xs:kV) (w:gx) (h:xR base b j tB C v xs w):
  Calls prog 269 #[jO b j] w λe w'=>e=iw (gh xs.length)/\w'=w:=by
 have d:=h.at;obtain⟨ao,cap,rfl⟩:=gF h.row;have H:=fV h;clear h;go_enter func269,ntmps269;go_wp2;go_ret;simp
def Z5 (base b j:Nat) (tB:TypeId) (C:jN) (v:gQ) (xs:kV) (n:Int) (w:gx) (h:xR base b j tB C v xs w):
  Calls prog 248 #[jO b j,gh n] w λe w'=>e=iw (kI (iE xs n))/\w'=w:=by
 have s:=h.at;have q:=h.le
 by_cases D:n < 0
 .obtain⟨ao,cap,rfl⟩:=gF h.row;have l:iE xs n=none:=by unfold iE;rw[gV (by omega)]
  rw[l];go_enter func248,ntmps248;go_wp2;go_ret;exact⟨rfl,rfl⟩
 by_cases H:(xs.length:Int)<=n
 .obtain⟨ao,cap,rfl⟩:=gF h.row;have l:iE xs n=none:=by unfold iE;rw[gV (by omega)]
  rw[l];go_enter func248,ntmps248;go_wp2;go_ret;exact⟨rfl,rfl⟩
 obtain⟨k,rfl⟩:∃k:Nat,n=k:=⟨n.toNat,by omega⟩;have o:k < xs.length:=by omega
 have l:iE xs k=xs[k]:=by unfold iE;rw[gJ (by omega)];simp[o]
 rw[l];rcases h.row.2 with⟨_,A⟩|⟨g,cap,m,rfl,_,f,r,_,_,d⟩
 .omega
 have y:w.cell? ⟨g,k,none⟩=some (kI xs[k]):=by
  rw[fW f];have:(m.toList.take (xs.length*1))[k]?=some (kI xs[k]):=by rw[d];simp[o]
  rw[Fc]at this;split at this
  .grind
  .omega
 go_enter func248,ntmps248;go_wp2;go_ret;simp
def posOf (xs:kV) (x:jk):Int:=if xs.idxOf x < xs.length then (xs.idxOf x:Int)else -1
def us (w:gx) (x:jk):Prop:=∀k,x=some k->∃c,w.heap[k]?=some (gL c 140)
def Vb:(prog.info? 140).map (·.size)=some 4:=by kernel_rfl
def Jh:prog.underlying 72=some (.pointer (prog.pointee 72)):=by kernel_rfl
def Da {y : jk} (l:us w x) (m:us w y):
  (binOp .eql 72 (.pointer (ptr x)) (.pointer (ptr y))).run prog w= .ok (.bool (decide (x=y))) w:=by
 obtain⟨j,f,g⟩:=Option.map_eq_some_iff.1 Vb;cases x with
 |none=>
  cases y with
  |none=>exact run_eql_pointer_nil (P:=prog) w 72 none Jh
  |some b=>
   have h:∀d:Nat,(Op.equalIn (d+1) 72 (.pointer none) (gN b)).run prog w= .ok false w:=λd=>by
    simp[Op.equalIn,ql underlying72]
   show(binOp .eql 72 (.pointer none) (gN b)).run prog w= .ok (.bool false) w;simp only[binOp];simp[Op.equal,Op.maxDepth,h 9999]
 |some a=>
  cases y with
  |none=>exact run_eql_pointer_nil (P:=prog) w 72 (some ⟨a,0,none⟩) Jh
  |some b=>
   by_cases h:a=b
   .subst h;rw[wj rfl];exact run_eql_ptr_same (P:=prog) w (⟨a,0,none⟩:Addr) underlying72 f
   .have⟨ca,ha⟩:=l a rfl;have⟨cb,hb⟩:=m b rfl;rw[yd (by grind)];exact run_eql_ptr_other (P:=prog) w (a:=⟨a,0,none⟩) (b:=⟨b,0,none⟩) underlying72 f (by omega) (by simp) ha hb
def aey (v:gQ) (xs:kV) (w:gx):Prop:=((xs=[]/\∃ao cap,v= .slice ao 0 cap)\/∃g cap,v=oe g xs.length cap/\∀k,(hk:k < xs.length)->w.cell? ⟨g,k,none⟩=some (kI xs[k]))/\∀x∈xs,us w x
def ace (o:w.ownsRow base 72 1 v xs.length (xs.map kI)) (l:∀x∈xs,us w x):aey v xs w:=by
 refine⟨?_,l⟩;rcases o.2 with⟨rfl,q⟩|⟨g,cap,h,rfl,_,f,n,_,_,d⟩
 .grind
 .refine .inr ⟨g,cap,rfl,λk m=>?_⟩;rw[fW f];have:(h.toList.take (xs.length*1))[k]?=some (kI xs[k]):=by rw[d];simp[m]
  grind
def aax (h:k < xs.length) (o:xs[k]=x) (f:∀j,j < k->xs[j]?≠some x):posOf xs x=k:=by
 have q:xs.idxOf x=k:=by
  have n:x∈xs:=o▸uw h;have m:=List.idxOf_lt_length_iff.2 n;have g:¬xs.idxOf x < k:=λd=>f _ d (by grind);have l:¬k < xs.idxOf x:=λd=>by
   have:=List.not_of_lt_findIdx (p:=(·==x)) (xs:=xs) (i:=k) (by simpa [List.idxOf]using d)
   grind
  omega
 grind[posOf]
def aay (d:∀j,j < xs.length->xs[j]?≠some x):posOf xs x= -1:=by
 grind[posOf]
def FC (v:gQ) (xs:kV) (x:jk) (w:gx) (h:aey v xs w) (m:us w x) (N:xs.length<=4096):
  Calls prog 272 #[v,kI x] w λe w'=>e=iw (gh (posOf xs x))/\w'=w:=by
 rcases h with⟨⟨rfl,ao,cap,rfl⟩|⟨g,cap,rfl,r⟩,A⟩
 .go_enter func272,ntmps272;go_wp2;refine uj 1 ?_;rw[nU];go_wp2;go_ret;simp[posOf]
 .have y:=r;have H:=m;clear r m;have l:∀k,(n:k < xs.length)->(binOp .eql 72 (.pointer (ptr x)) (.pointer (ptr xs[k]))).run prog w= .ok (.bool (decide (x=xs[k]))) w:=λk n=>Da H (A _ (uw n));have D:=fV l;clear l;go_enter func272,ntmps272;go_wp2
  go_loopw [8] (λi wr=>∃k:Nat,k<=xs.length/\i=gh k/\wr=w/\∀j,j < k->xs[j]?≠some x) (λi _=>xs.length - (intOf i).toNat)
  case atStart=>grind
  case round=>
   obtain⟨k,n,rfl,rfl,q⟩:=hrel
   by_cases d:k < xs.length
   .have R:=y k d;have s:=D k d
    by_cases f:x=xs[k]
    .have o:=fV (aax d f.symm q);rw[wj f]at s;clear f;go_wp2;go_ret;exact⟨by rw[o.out];rfl,rfl⟩
    .rw[yd f]at s;have I:=f;clear f;go_wp2;go_roundw
     case rel=>
      refine⟨k+1,by omega,by go_num,by simp,λj J=>?_⟩
      grind
     case measure=>simp[intOf];omega
   .have o:=fV (aay (xs:=xs) (x:=x) (λj J=>q j (by omega)));go_wp2;go_ret;exact⟨by rw[o.out];rfl,rfl⟩
def js:jN->Nat->List gQ->jN
 |c,_,[]=>c
 |c,o,v::r=>js (c.setIfInBounds o v) (o+1) r
def jA:∀(d:List gQ) (c:jN) (o:Nat),(js c o d).size=c.size
 |[],_,_=>rfl
 |v::r,c,o=>by rw[js,jA r];simp
def kM:∀(d:List gQ) (c:jN) (o:Nat),o+d.length<=c.size->(js c o d).toList=c.toList.take o++d++c.toList.drop (o+d.length)
 |[],c,o,_=>by simp[js]
 |v::r,c,o,h=>by
  have f:o+1+r.length<=(c.setIfInBounds o v).size:=by simp at h|-;omega
  rw[js,kM r _ _ f];simp only[uk]at h;have e1:(c.setIfInBounds o v).toList=c.toList.set o v:=by simp
  rw[e1];have g:o < c.toList.length:=by simp;omega
  rw[abj (by grind),List.take_set_of_le (gW _),List.drop_set_of_lt (by omega)]
  grind
def kK:∀(d:List gQ) (w:gx) (g:Nat) (c:jN) (t:TypeId) (m:Nat×Nat) (o:Nat),w.heap[g]?=some (.cells c t m)->(w.setCells g o d).heap[g]?=some (.cells (js c o d) t m)
 |[],_,_,_,_,_,_,h=>h
 |v::r,w,g,c,t,m,o,h=>by
  rw[World.setCells,js];refine kK r _ g _ t m (o+1) ?_;have f:=iX h;rw[xH f]at h;have l:=jy h;simp only[World.setCell]
  grind
def Kept.setCells (d:b∈S\/a.heap.size<=b):∀(f:List gQ) (o:Nat) {w:gx},Kept S a w->Kept S a (w.setCells b o f)
 |[],_,_,h=>h
 |v::r,o,w,h=>by rw[World.setCells];exact Kept.setCells d r (o+1) (h.setCell (p:=⟨b,o,none⟩) d v)
def acp:(prog.info? 72).map (λi=>(i.zero,i.size,i.bytes))=some (some (.pointer none),1,8):=by kernel_rfl
def Zh {l : List gQ} {n : Nat} (d:i < j) (f:j<=n) (g:n<=l.length):
  ((l.take i++(l.take n).drop j++l.drop (i+(n - j))).take (n - (j - i)))=(l.take n).take i++(l.take n).drop j:=by
 have e:(l.take i++(l.take n).drop j).length=n - (j - i):=by simp;omega
 grind
def aeT (g cap i j n:Nat) (f:jN) (w:gx) (o:w.heap[g]?=some (gL f 72)) (a4:n<=cap) (X:f.size=cap) (hi:i < j) (hj:j<=n) (a3:n<=4096)
  (h1:∀u∈f.toList.take n,u.oneCell'=true):
  Calls prog 273 #[oe g n cap,gh i,gh j] w λe w'=>e=iw (oe g (n - (j - i)) cap)/\
   ∃q,w'.heap[g]?=some (gL q 72)/\q.size=cap/\q.toList.take (n - (j - i))=(f.toList.take n).take i++(f.toList.take n).drop j/\Kept [g] w w':=by
 obtain⟨i0,R,a5,Z,a6⟩:=ux acp;obtain⟨d,m⟩:∃d,d=(f.toList.take n).drop j:=⟨_,rfl⟩;have r:d.length=n - j:=by rw[m];simp;omega
 have I:∀t u,d[t]?=some u->f[j+t]?=some u:=by
  intro t u D;rw[m,V0,Fc]at D;split at D
  .grind
  .cases D
 obtain⟨A,hA,J⟩:∃A:Addr,(if cap=j then some (⟨g,0,none⟩:Addr)else some ⟨g,j,none⟩)=some A/\Hid (∀t u,d[t]?=some u->w.drew.cell? (A.add t)=some u):=by
  by_cases h:cap=j
  .refine⟨⟨g,0,none⟩,by simp[h],λt u D=>?_⟩
   grind
  .refine⟨⟨g,j,none⟩,by simp[h],λt u D=>?_⟩;rw[show(⟨g,j,none⟩:Addr).add t=⟨g,j+t,none⟩from by unfold Addr.add;simp];exact(fW o _).trans (I t u D)
 have s1:Hid (d.length=(n - j)*1):=by rw[Fe];exact r
 have s2:Hid (∀u∈d,u.oneCell'=true):=λu D=>h1 u (K5 (m▸D));have s3:Hid (∀t,t < d.length->(w.drew.cell? ⟨g,0+i*1+t,none⟩).isSome=true/\w.drew.frozen? ⟨g,0+i*1+t,none⟩=false):=by
  intro t Y;rw[r]at Y;refine⟨?_,gu o _⟩;show(w.cell? _).isSome=true;rw[fW o,xH (by omega)];rfl
 obtain⟨y,s⟩:∃y,y=w.drew.setCells g (0+i*1) d:=⟨_,rfl⟩;have H:y.heap[g]?=some (gL (js f (0+i*1) d) 72):=by rw[s];exact kK d w.drew g f _ _ _ o
 have N:Kept [g] w y:=by rw[s];exact Kept.setCells (.inl (by simp)) d _ (Kept.refl _ _).drew
 have a0:∀ty,(Builtin.clear_ #[174] ty #[.slice (some ⟨g,i+(n - j),none⟩) (n - (i+(n - j))) (cap - (i+(n - j)))]).run prog y= .ok (.tuple #[]) (y.setCells g (i+(n - j)) (List.replicate (n - (i+(n - j))) (.pointer none))):=
  λty=>Lib.run_clear_slice y _ _ ty _ underlying174 Tryz.zeroValue72 rfl rfl g (i+(n - j)) _ _ (by omega) (λt Y=>by rw[fW H,xH (by rw[jA];omega)];rfl) (λt Y=>gu H _)
 have HB:=kK (List.replicate (n - (i+(n - j))) (Value.pointer none)) y g _ _ _ (i+(n - j)) H;have HK:=Kept.setCells (S:=[g]) (a:=w) (b:=g) (.inl (by simp)) (List.replicate (n - (i+(n - j))) (Value.pointer none)) (i+(n - j)) N;have U:(js f (0+i*1) d).toList=f.toList.take (0+i*1)++d++f.toList.drop (0+i*1+d.length):=kM _ _ _ (by omega);have V:=kM (List.replicate (n - (i+(n - j))) (Value.pointer none)) (js f (0+i*1) d) (i+(n - j)) (by rw[jA];grind);have HF:(js (js f (0+i*1) d) (i+(n - j)) (List.replicate (n - (i+(n - j))) (Value.pointer none))).toList.take (n - (j - i))=(f.toList.take n).take i++(f.toList.take n).drop j:=by
  rw[V,wm,K7 (by simp[jA];omega),U,r,m];rw[Nr,SI (by omega)];have:=Zh (l:=f.toList) hi hj (by grind)
  simpa using this
 have HW:=fV s;have a1:i<=cap:=by omega
 have a2:j<=cap:=by omega
 clear s;go_enter func273,ntmps273;go_wp2_with fail
 go_region_law (refine step_append_room rfl (.tmp 22) (.tmp 25) 174 rfl 72 i0 1 underlying174 R Z g 0 i cap (by simp[Act.eval,Act.put]) A (n - j) (cap - j) d (by simp[Act.eval,Act.put]) s1 J s2 (by omega) s3 ?_;rw[<-HW.out])
 go_wp2;go_ret;exact⟨by rw[show n - (j - i)=i+(n - j) by omega];rfl,_,HB,by rw[jA,jA];exact X,HF,HK⟩
def ae8:(prog.info? 72).map (λi=>(i.zero,i.size,i.bytes))=some (some (.pointer none),1,8):=by kernel_rfl
def IK (T S F O B:Nat) (z:gQ):Prop:=(T=72/\S=174/\F=387/\O=389/\B=8/\z= .pointer none)\/(T=142/\S=138/\F=266/\O=319/\B=16/\z= .nilIface)
section
variable {T S F O B:Nat} {z:gQ}
def IK.ZQ (K:IK T S F O B z):(prog.info? T).map (λi=>(i.zero,i.size,i.bytes))=some (some z,1,B)/\prog.underlying S=some (.slice T)/\(prog.info? T).map (·.size)=some 1/\(∀w,(sizeOf T).run prog w= .ok 1 w)/\∀a w,(callFunc O a).run prog w=((Extern.SlicesOverlaps.overlaps #[S,S] #[4] a).run prog w).andThen λv w'=> .ok (.value v) w':=by
 rcases K with⟨rfl,rfl,rfl,rfl,rfl,rfl⟩|⟨rfl,rfl,rfl,rfl,rfl,rfl⟩
 .exact⟨by kernel_rfl,underlying174,by kernel_rfl,Tryz.sizeOf72,V1 func389 (by kernel_rfl) (by kernel_rfl) (by kernel_rfl) (by kernel_rfl)⟩
 .exact⟨by kernel_rfl,underlying138,by kernel_rfl,Tryz.sizeOf142,V1 func319 (by kernel_rfl) (by kernel_rfl) (by kernel_rfl) (by kernel_rfl)⟩
def Yz (T base:Nat) (v:gQ) (n i:Nat) (xs:List gQ) (u:gQ) (w:gx) (e:Ending) (w':gx):Prop:=
 ∃d,e=iw d/\w'.ownsRow base T 1 d (n+1) (xs.take i++[u]++xs.drop i)/\Kept v.ownBlock.toList w w'/\(d.ownBlock=v.ownBlock\/∀k,d.ownBlock=some k->w.heap.size<=k)
def Xm (K:IK T S F O B z) (base n r:Nat) (v u:gQ) (xs:List gQ) (w:gx) (g:w.ownsRow base T 1 v n xs) (R:w.heap[r]?=some (gL #[u] T)) (hu:u.oneCell'=true) (Z:n<=1048576) (I:base<=w.heap.size):
  Calls prog F #[v,gh n,oe r 1 1] w (Yz T base v n n xs u w):=by
 obtain⟨U,J,m,o,q⟩:=ux K.ZQ.1;have D:=K.ZQ.2.1;obtain⟨ao,cap,rfl⟩:=gF g;have N:xs.length=n:=by have:=g.1;omega
 have H:=fV R;clear R;rcases K with⟨rfl,rfl,rfl,rfl,rfl,rfl⟩|⟨rfl,rfl,rfl,rfl,rfl,rfl⟩
 all_goals
  by_cases y:cap=n
  subst y;have s:=fV g;clear g
  first|go_enter func387,ntmps387|go_enter func266,ntmps266
  go_wp2_with (at_builtin;refine iA _ rfl _ _ _ rfl base _ U _ 1 _ D J m o q rfl (by decide) (.slice ao cap cap) cap xs rfl s ⟨r,0,none⟩ 1 1 [u] rfl rfl (λj x l=>by rw[jg,fW H.out,<-l];simp) (λx l=>by grind) (by unfold maxLen;omega) (by omega) I ?_;intro v' w2 f d h);have A:=(Kept.refl (Value.slice ao cap cap).ownBlock.toList w).grown d (λk Y=> .inl (by grind))
  rotate_left
  have s:=fV g;clear g
  first|go_enter func387,ntmps387|go_enter func266,ntmps266
  go_wp2_with (at_builtin;refine iA _ rfl _ _ _ rfl base _ U _ 1 _ D J m o q rfl (by decide) (.slice ao n cap) n xs rfl s ⟨r,0,none⟩ 1 1 [u] rfl rfl (λj x l=>by rw[jg,fW H.out,<-l];simp) (λx l=>by grind) (by unfold maxLen;omega) (by omega) I ?_;intro v' w2 f d h);have A:=(Kept.refl (Value.slice ao n cap).ownBlock.toList w).grown d (λk Y=> .inl (by grind))
  all_goals
   have X:=f;have V:=h;go_wp2;go_ret;refine⟨_,rfl,?_,A,V⟩;rw[BF (by omega),Hk (by omega),Cw];exact X
def TR {l:List gQ} {n i:Nat} {u:gQ} {c:jN} (d:c.toList.take n=l) (m:n+1<=c.size) (h:i < n):
  (js (js c (i+1) (l.drop i)) i [u]).toList.take (n+1)=l.take i++[u]++l.drop i:=by
 have g:l.length=n:=by rw[<-d];simp;omega
 have f:=kM (l.drop i) c (i+1) (by grind);rw[kM [u] _ i (by rw[jA];grind),f];have e1:(c.toList.take (i+1)++l.drop i++c.toList.drop (i+1+(l.drop i).length)).take i=l.take i:=by
  rw[wm,K7 (by grind),Nr,SI (by omega),<-d,Nr,SI (by omega)]
 have e2:(c.toList.take (i+1)++l.drop i++c.toList.drop (i+1+(l.drop i).length)).drop (i+[u].length)=l.drop i++c.toList.drop (i+1+(l.drop i).length):=by
  rw[wm,List.drop_append_of_le_length (by grind),Hk (by grind),sg]
 rw[e1,e2,<-wm,K7 (by grind),BF (by grind)]
def QJ (K:IK T S F O B z) (base g cap n i o:Nat) (u:gQ) (f:jN) (xs:List gQ) (w:gx) (Y:base<=g) (d:w.heap[g]?=some (gL f T)) (y:f.toList.take n=xs) (a3:f.size=cap) (hm:cap<=maxLen)
  (a2:n+1<=cap) (hi:i < n) (R:w.heap[o]?=some (gL #[u] T)) (a0:o≠g) (hu:u.oneCell'=true) (h1:∀x∈xs,x.oneCell'=true) (aa:n<=1048576):
  Calls prog F #[oe g n cap,gh i,oe o 1 1] w (Yz T base (oe g n cap) n i xs u w):=by
 have J:xs.length=n:=by rw[<-y];simp;omega
 obtain⟨_,V,U,HZ,HP⟩:=K.ZQ;have a1:∀lb X,(callFunc O #[oe o 1 1,.slice (some ⟨g,i+1,none⟩) lb X]).run prog w= .ok (.value (.bool false)) w:=λlb X=>by
  rw[HP,Lib.run_overlaps_apart w S 4 T V 1 HZ ⟨o,0,none⟩ ⟨g,i+1,none⟩ 1 1 lb X a0 T T 1 cap (by simp[World.shape?,R]) (by simp[World.shape?,d,a3]) (by omega) (gu R 0) (gu R 1)];rfl
 have N:∀j,j < cap->(w.cell? ⟨g,j,none⟩).isSome=true:=λj q=>by rw[fW d,xH (by omega)];rfl
 have Z:∀j x,xs[j]?=some x->w.cell? ⟨g,j,none⟩=some x:=λj x q=>by
  rw[fW d]
  grind
 have a9:(xs.drop i).length=n - i:=by rw[List.length_drop,J]
 obtain⟨h,m⟩:∃h,h=w.drew.setCells g (i+1) (xs.drop i):=⟨_,rfl⟩;have H:∀A r sc,(Builtin.copy_ #[S,S] A #[.slice (some ⟨g,i+1,none⟩) (n - i) r,.slice (some ⟨g,i,none⟩) (n+1 - i) sc]).run prog w.drew= .ok (goInt (xs.drop i).length) h:=λA r sc=>by
  rw[m];exact V2 w.drew _ _ A T g (i+1) (n - i) r ⟨g,i,none⟩ (n+1 - i) sc (xs.drop i) V U (by grind)
   (λj x q=>by rw[Addr.add_lit];simp_all)
   (λj q=>N _ (by omega)) (λj q=>gu d _) (λx hx=>h1 x (K5 hx))
 have l:h.heap[g]?=some (gL (js f (i+1) (xs.drop i)) T):=by rw[m];exact kK (xs.drop i) w.drew g f _ _ _ d
 have s:Kept [g] w h:=by rw[m];exact Kept.setCells (.inl (by simp)) _ _ (Kept.refl _ _).drew
 have D:h.heap[o]?=some (gL #[u] T):=s.at R (by grind);have I:∀A r,(Builtin.copy_ #[S,S] A #[.slice (some ⟨g,i,none⟩) (n+1 - i) r,oe o 1 1]).run prog h= .ok (goInt 1) (h.setCells g i [u]):=λA r=>
  V2 h _ _ A T g i (n+1 - i) r ⟨o,0,none⟩ 1 1 [u] V U (by grind)
   (λj x q=>by rw[jg,fW D,<-q];simp)
   (λj q=>by rw[fW l,xH (by rw[jA];grind)];rfl) (λj q=>gu l _) (λx hx=>by grind)
 have HB:=kK [u] h g _ _ _ i l;have HK:=Kept.setCells (S:=[g]) (a:=w) (b:=g) (.inl (by simp)) [u] i s;have HF:=TR (u:=u) y (by omega:n+1<=f.size) hi;clear l s m d R D h1 N Z y;have ac:IntKind.i64.wrap ((i:Int)+1)=(i:Int)+1:=by rw[IntKind.wrap_i64];omega
 have a4:(0:Int)<=(i:Int)+1:=by omega
 have a5:(i:Int)+1<=(n:Int)+1:=by omega
 have ab:((i:Int)+1).toNat=i+1:=by omega
 have a6:(i:Int)<=(n:Int)+1:=by omega
 have a7:¬(cap=i+1):=by omega
 have a8:¬(cap=i):=by omega
 rcases K with⟨rfl,rfl,rfl,rfl,rfl,rfl⟩|⟨rfl,rfl,rfl,rfl,rfl,rfl⟩
 all_goals
  first|go_enter func387,ntmps387|go_enter func266,ntmps266
  go_wp2_with (simp only[a1])
  go_region_law (refine step_copy_runI rfl _ _ _ _ rfl _ _ (by simp[Act.eval,Act.put]) (by simp[Act.eval,Act.put]) (H _ _ _) ?_)
  go_wp2_with (at_builtin;refine wpList_copy_runI _ rfl _ _ _ _ rfl _ _ rfl rfl (I _ _) ?_);go_ret;exact⟨_,rfl,⟨by grind,.inr ⟨g,cap,_,rfl,Y,HB,by omega,hm,by rw[jA,jA];omega,by grind⟩⟩,HK,.inl rfl⟩
def QI {l:List gQ} {n i:Nat} {u:gQ} {R:jN} (h:l.length=n) (g:R.toList.take i=l.take i) (o:n+1<=R.size) (m:i < n):
  (js (js R i [u]) (i+1) (l.drop i)).toList.take (n+1)=l.take i++[u]++l.drop i:=by
 have f:=kM [u] R i (by grind);rw[kM (l.drop i) _ (i+1) (by grind[js]),f,g];have d:∀X:List gQ,(l.take i++[u]++X).take (i+1)=l.take i++[u]:=λX=>by grind
 rw[d,K7 (by grind),BF (by grind)]
def TQ (K:IK T S F O B z) (base g cap n i bv:Nat) (u:gQ) (D:jN) (xs:List gQ) (w:gx) (d:w.heap[g]?=some (gL D T)) (a1:D.toList.take n=xs) (am:D.size=cap)
  (al:n<=cap) (a9:cap < n+1) (hi:i < n) (hv:w.heap[bv]?=some (gL #[u] T)) (hu:u.oneCell'=true) (h1:∀x∈xs,x.oneCell'=true) (ak:n<=1048576) (hb:base<=w.heap.size):
  Calls prog F #[oe g n cap,gh i,oe bv 1 1] w (Yz T base (oe g n cap) n i xs u w):=by
 obtain⟨i0,a8,ab,ac,a3⟩:=ux K.ZQ.1;obtain rfl:cap=n:=by omega
 have a0:xs.length=cap:=by rw[<-a1];simp;omega
 obtain⟨_,HU,a2,HZ,HP⟩:=K.ZQ;have aj:=iX d;have ap:=iX hv;have Z:∀j x,xs[j]?=some x->w.cell? ⟨g,j,none⟩=some x:=λj x y=>by
  rw[fW d]
  grind
 have A:(Builtin.firstCells i0.size i (oe g i cap)).run prog w.drew= .ok (xs.take i).toArray w.drew:=by
  rw[ac];exact run_firstCells_some w.drew 1 i ⟨g,0,none⟩ i cap (xs.take i) (by grind) (λj x y=>by
   rw[jg];rw[Fc]at y
   simp_all)
 obtain⟨G,hG⟩:∃G,G=grownCap w (cap+1) cap T:=⟨_,rfl⟩;obtain⟨R,hR⟩:∃R:jN,R=(xs.take i).toArray++Builtin.zeroCells z.cells (cap+1 - i)++Builtin.zeroCells z.cells (G - (cap+1)):=⟨_,rfl⟩;obtain⟨m,J⟩:∃m,m=w.drew.alloc (gL R T):=⟨_,rfl⟩;have aa:∀f,(Builtin.append_ #[S,3] f #[oe g i cap,gh ((cap:Int)+1 - (i:Int))]).run prog w= .ok (oe w.heap.size (cap+1) G) m:=λf=>by
  have h:=Lib.run_append_grow_zeros w S 3 f T i0 _ .i64 .i64 HU underlying3 a8 ab (some ⟨g,0,none⟩) i cap (xs.take i) A (cap+1 - i) (by omega) (by omega) (by omega) (by omega) (by rw[a3];rcases K with⟨_,_,_,_,rfl,_⟩|⟨_,_,_,_,rfl,_⟩<;>omega) (by rw[a3,show i+(cap+1 - i)=cap+1 by omega];rcases K with⟨_,_,_,_,rfl,_⟩|⟨_,_,_,_,rfl,_⟩<;>exact growslice_fits (by omega) (by omega))
  grind
 have a7:cap+1<=G:=by rw[hG];exact grownCap_ge w _ _ _
 have a4:G<=maxLen:=by rw[hG];exact grownCap_le_maxLen w (cap+1) cap T (by unfold maxLen;omega)
 have a5:R.size=G:=by
  rw[hR];rcases K with⟨_,_,_,_,_,rfl⟩|⟨_,_,_,_,_,rfl⟩<;>simp[Builtin.zeroCells,Value.cells]<;>omega
 have U:R.toList.take i=xs.take i:=by
  rw[hR];simp only[Array.toList_append,wm];rw[K7 (by grind),BF (by grind)]
 have o:m.heap[w.heap.size]?=some (gL R T):=by rw[J];exact fX w.drew _
 have r:Kept [] w m:=by rw[J];exact(Kept.refl [] w).drew.alloc _
 have V:=r.at hv (by simp);have a6:=r.at d (by simp);obtain⟨l,s⟩:∃l,l=m.setCells w.heap.size i [u]:=⟨_,rfl⟩;have X:∀f H,(Builtin.copy_ #[S,S] f #[.slice (some ⟨w.heap.size,i,none⟩) (cap+1 - i) H,oe bv 1 1]).run prog m= .ok (goInt 1) l:=λf H=>by
  rw[s];exact V2 m _ _ f T w.heap.size i (cap+1 - i) H ⟨bv,0,none⟩ 1 1 [u] HU a2 (by grind)
   (λj x y=>by rw[jg,fW V,<-y];simp)
   (λj y=>by rw[fW o,xH (by grind)];rfl) (λj y=>gu o _) (λx hx=>by grind)
 have q:l.heap[w.heap.size]?=some (gL (js R i [u]) T):=by rw[s];exact kK [u] m _ R _ _ _ o
 have I:Kept [] w l:=by rw[s];exact Kept.setCells (.inr (gW _)) _ _ r
 have N:=I.at d (by simp);have Y:∀f H sc,(Builtin.copy_ #[S,S] f #[.slice (some ⟨w.heap.size,i+1,none⟩) (cap - i) H,.slice (some ⟨g,i,none⟩) (cap - i) sc]).run prog l.drew= .ok (goInt (xs.drop i).length) (l.drew.setCells w.heap.size (i+1) (xs.drop i)):=λf H sc=>
  V2 l.drew _ _ f T w.heap.size (i+1) (cap - i) H ⟨g,i,none⟩ (cap - i) sc (xs.drop i) HU a2 (by grind)
   (λj x y=>by
    rw[Addr.add_lit];have h3:=Z (i+j) x (by grind);rw[fW d]at h3;exact(fW N _).trans h3)
   (λj y=>by show(l.cell? _).isSome=true;rw[fW q,xH (by grind[js])];rfl) (λj y=>gu q _) (λx hx=>h1 x (K5 hx))
 have HB:=kK (xs.drop i) l.drew w.heap.size _ _ _ (i+1) q;have HK:=Kept.setCells (S:=[]) (a:=w) (b:=w.heap.size) (.inr (gW _)) (xs.drop i) (i+1) I.drew;have HF:=QI (u:=u) a0 U (by omega) hi;have ar:(cap:Int) < (cap:Int)+1:=by omega
 have ae:¬(G=i):=by omega
 have ad:¬(G=i+1):=by omega
 have ai:¬(cap=i):=by omega
 have aq:IntKind.i64.wrap ((i:Int)+1)=(i:Int)+1:=by rw[IntKind.wrap_i64];omega
 have af:(0:Int)<=(i:Int)+1:=by omega
 have ag:(i:Int)+1<=(cap:Int)+1:=by omega
 have an:((i:Int)+1).toNat=i+1:=by omega
 have ah:(i:Int)<=(cap:Int):=by omega
 clear o r q I J d hv V a6 N h1 Z a1 A hR hG U s;rcases K with⟨rfl,rfl,rfl,rfl,rfl,rfl⟩|⟨rfl,rfl,rfl,rfl,rfl,rfl⟩
 all_goals
  first|go_enter func387,ntmps387|go_enter func266,ntmps266
  go_wp2_with (first
   |(at_builtin;refine Lib.wpList_append_run _ rfl _ _ _ _ rfl _ _ rfl rfl _ _ (aa _) ?_)
   |(at_builtin;refine wpList_copy_runI _ rfl _ _ _ _ rfl _ _ rfl rfl (X _ _) ?_))
  go_region_law (refine step_copy_runI rfl _ _ _ _ rfl (.slice (some ⟨w.heap.size,i+1,none⟩) (cap - i) (G - (i+1))) (.slice (some ⟨g,i,none⟩) (cap - i) (cap - i)) (by simp[Act.eval,Act.put]) (by simp[Act.eval,Act.put]) (Y _ _ _) ?_)
  go_wp2;go_ret;refine⟨_,rfl,⟨by grind,.inr ⟨w.heap.size,G,_,rfl,hb,HB,a7,a4,by rw[jA,jA,Fe];exact a5,by grind⟩⟩,HK.mono (by simp),.inr ?_⟩;intro k hk;simp[Value.ownBlock]at hk;omega
def ad9 (K:IK T S F O B z) (base n i h:Nat) (v u:gQ) (xs:List gQ) (w:gx) (J:w.ownsRow base T 1 v n xs) (D:w.heap[h]?=some (gL #[u] T)) (y:v.ownBlock≠some h) (A:u.oneCell'=true) (H:∀x∈xs,x.oneCell'=true) (X:i<=n) (l:n<=1048576) (I:base<=w.heap.size):
  Calls prog F #[v,gh i,oe h 1 1] w (Yz T base v n i xs u w):=by
 by_cases r:i=n
 .subst r;exact Xm K base i h v u xs w J D A l I
 .rcases J.2 with⟨_,V⟩|⟨g,cap,o,rfl,q,f,s,R,m,d⟩
  .omega
  .have N:h≠g:=λe=>y (by rw[e];rfl);rw[Fe]at m d
   by_cases U:n+1<=cap
   .exact QJ K base g cap n i h u o xs w q f d m R U (by omega) D N A H l
   .exact TQ K base g cap n i h u o xs w f d m s (by omega) (by omega) D A H l I
end
def xR.Xd (h:xR base b j tB C v xs w) (d:∀x∈xs,us w x):aey v xs w:=ace h.row d
def xR.nO (h:xR base b j tB C v xs w):v.ownBlock≠some b:=by
 intro d;rcases h.row.2 with⟨e,_⟩|⟨g,cap,f,e,_,l,_⟩
 .rw[e]at d;cases d
 .rw[e]at d;obtain rfl:=jy d;exact yH l h.iC (ye h.ne) rfl
def row_one (xs:kV):∀u∈xs.map kI,u.oneCell'=true:=by
 intro u d;obtain⟨x,_,rfl⟩:=List.mem_map.1 d;rfl
def o9 (base b j:Nat) (tB:TypeId) (C:jN) (v:gQ) (ys:kV) (w w':gx):Prop:=
 ∃d,xR base b j tB (C.setIfInBounds j d) d ys w'/\Kept (b::v.ownBlock.toList) w w'/\(d.ownBlock=v.ownBlock\/∀k,d.ownBlock=some k->w.heap.size<=k)
def tV (h:C[j]?=some v):j < C.size:=(Array.getElem?_eq_some_iff.1 h).1
def Z6 (base b j:Nat) (tB:TypeId) (C:jN) (v:gQ) (xs:kV) (w:gx) (h:xR base b j tB C v xs w):
  Calls prog 179 #[jO b j] w λe w'=>e=iw (kI (iE xs ((xs.length:Int) - 1)))/\w'=w:=by
 have f:=h.at;have d:=h.le;obtain⟨ao,cap,rfl⟩:=gF h.row;have H:=Z5 base b j tB C _ xs ((xs.length:Int) - 1) w h;go_enter func179,ntmps179
 go_wp21
 refine H.mono ?_;rintro e w' ⟨rfl,rfl⟩;go_wp2;go_ret;simp
def aee (base b j:Nat) (tB:TypeId) (C:jN) (v:gQ) (xs:kV) (x:jk) (w:gx) (h:xR base b j tB C v xs w) (l:∀x∈xs,us w x) (n:us w x):
  Calls prog 322 #[jO b j,kI x] w λe w'=>e=iw (.bool (decide (x∈xs)))/\w'=w:=by
 have o:=h.at;have m:=h.le;have g:Calls prog 349 #[v,kI x] w λe w'=>e=iw (.bool (decide (x∈xs)))/\w'=w:=by
  have H:=FC v xs x w (h.Xd l) n h.le;have f:decide (0<=posOf xs x)=decide (x∈xs):=by
   unfold posOf
   by_cases s:x∈xs
   .grind
   .grind
  have d:=fV f;clear f;generalize posOf xs x=q at H d;generalize decide (x∈xs)=r at d|-;go_enter func349,ntmps349
  go_wp21
  refine H.mono ?_;rintro e w' ⟨rfl,rfl⟩;go_wp2;go_ret;exact⟨by rw[<-d.out];rfl,rfl⟩
 obtain⟨ao,cap,rfl⟩:=gF h.row;have H:=g;go_enter func322,ntmps322
 go_wp21
 refine H.mono ?_;rintro e w' ⟨rfl,rfl⟩;go_wp2;go_ret;simp
def Ow (base b j:Nat) (tB:TypeId) (C:jN) (v:gQ) (xs:kV) (x:jk) (w:gx) (h:xR base b j tB C v xs w) (f:∀x∈xs,us w x) (m:us w x):
  Calls prog 246 #[jO b j,kI x] w λe w'=>e=iw (kI (iE xs (posOf xs x - 1)))/\w'=w:=by
 have n:=h.at;have g:=h.le;have l: -1<=posOf xs x/\posOf xs x<=4096:=by unfold posOf;split<;>omega
 have⟨hp1,hp2⟩:=l;have d:=FC v xs x w (h.Xd f) m h.le;obtain⟨ao,cap,rfl⟩:=gF h.row;have H:=Z5 base b j tB C _ xs (posOf xs x - 1) w h;generalize posOf xs x=q at H d hp1 hp2|-;go_enter func246,ntmps246
 go_wp21
 refine d.mono ?_;rintro e w' ⟨rfl,rfl⟩
 go_wp21
 refine H.mono ?_;rintro e w' ⟨rfl,rfl⟩;go_wp2;go_ret;simp
def Z7 (base b j:Nat) (tB:TypeId) (C:jN) (v:gQ) (xs:kV) (x:jk) (w:gx) (h:xR base b j tB C v xs w) (hl:xs.length < 4096) (hb:base<=w.heap.size):
  Calls prog 271 #[jO b j,kI x] w λe w'=>e=pE/\o9 base b j tB C v (xs++[x]) w w':=by
 have⟨i0,hi,hz0,hz1,hz2⟩:=ux ae8;have c1:=h.at;have X:=h.nO;obtain⟨ao,cap,rfl⟩:=gF h.row;have H:=fV h;clear h;have f:Kept [] w (w.alloc (.cells #[kI x] 72)):=(Kept.refl _ _).alloc _;have Y:=f.ownsRow H.row (λ_ _=>by simp);have b1:=f.at H.iC (by simp);have I:=fX w (gL #[kI x] 72);have y:=fV I;clear I;go_enter func271,ntmps271;go_wp2_with (at_builtin;refine iA _ rfl _ _ 174 rfl base 72 i0 (.pointer none) 1 8 underlying174 hi hz0 hz1 hz2 rfl (by decide) (.slice ao xs.length cap) xs.length (xs.map kI) rfl Y ⟨w.heap.size,0,none⟩ 1 1 [kI x] rfl rfl (λk u r=>by rw[jg,fW y.out,<-r];simp) (λu r=>by simp at r;subst r;rfl) (by unfold maxLen;omega) (by omega) (by simp;omega) ?_);intro v' s d l A;have D:Kept (Value.slice ao xs.length cap).ownBlock.toList w s:=(f.mono (by simp)).grown l (λk n=> .inl (by grind));have q:s.heap[b]?=some (gL C tB):=D.at H.iC (by grind);have⟨ao',cap',hv⟩:=gF d;subst hv;have d1:s.cell? ⟨b,j,none⟩=some (.slice ao xs.length cap):=by rw[fW q];exact H.cell
 have d2:=gu q j;have J:=gm q j (.slice ao' (xs.length+1) cap');have o:(Value.slice ao' (xs.length+1) cap').ownBlock≠some b:=by
  intro n;rcases d.2 with⟨e,_⟩|⟨g,cap,U,e,_,V,_⟩
  .omega
  .rw[e]at n;obtain rfl:=jy n;exact yH V q (ye H.ne) rfl
 have Z:=zk (a:=⟨b,j,none⟩) d o (.slice ao' (xs.length+1) cap');have N:Kept (b::(Value.slice ao xs.length cap).ownBlock.toList) w (s.setCell ⟨b,j,none⟩ (.slice ao' (xs.length+1) cap')):=(D.mono (λk n _=>si _ n)).setCell (.inl (by simp)) _;have m:(Value.slice ao' (xs.length+1) cap').ownBlock=(Value.slice ao xs.length cap).ownBlock\/∀k,(Value.slice ao' (xs.length+1) cap').ownBlock=some k->w.heap.size<=k:=by
  rcases A with e|e
  .grind
  .grind
 have R:=m;go_wp2;go_end0;refine⟨rfl,_,⟨J,?_,?_,H.ne,by grind⟩,N,R⟩
 .simp[tV H.out.cell]
 grind
def aeg (base b j:Nat) (tB:TypeId) (C:jN) (v:gQ) (xs:kV) (w:gx) (h:xR base b j tB C v xs w):
  Calls prog 184 #[jO b j] w λe w'=>e=iw (kI (iE xs ((xs.length:Int) - 1)))/\o9 base b j tB C v xs.dropLast w w':=by
 have s:=Z6 base b j tB C v xs w h;have Y:=h.at;have J:=h.le;have o:=h.nO;obtain⟨ao,cap,rfl⟩:=gF h.row;have U:xs.length<=cap:=by
  rcases h.row.2 with⟨e,A⟩|⟨g,d,f,e,_,_,n,_⟩
  .omega
  .grind
 obtain⟨m,N⟩:∃m:Nat,m=xs.length - 1:=⟨_,rfl⟩;have R:max (0:Int) ((xs.length:Int) - 1)=(m:Int):=by omega
 have Z:=gu h.iC j;have y:o9 base b j tB C (.slice ao xs.length cap) xs.dropLast w (w.drew.setCell ⟨b,j,none⟩ (.slice ao m cap)):=by
  have V:(w.drew.setCell ⟨b,j,none⟩ (.slice ao m cap)).ownsRow base 72 1 (.slice ao m cap) xs.dropLast.length (xs.dropLast.map kI):=by
   have q:w.ownsRow base 72 1 (.slice ao m cap) xs.dropLast.length (xs.dropLast.map kI):=by
    refine⟨by simp,?_⟩;rcases h.row.2 with⟨e,A⟩|⟨g,d,f,e,l,D,n,H,I,r⟩
    .grind
    .injection e with e1 e2 e3;refine .inr ⟨g,cap,f,by grind,l,D,by grind,by omega,by omega,?_⟩;rw[Fe]at r|-;rw[List.length_dropLast,List.map_dropLast,<-r,abl,Nr]
     grind
   refine zk (a:=⟨b,j,none⟩) (w:=w.drew) q ?_ _;have:(Value.slice ao m cap).ownBlock=(Value.slice ao xs.length cap).ownBlock:=by cases ao<;>rfl
   rw[this];exact o
  refine⟨_,⟨gm (w:=w.drew) h.iC j _,?_,V,h.ne,by grind⟩,(Kept.refl _ w).drew.setCell (.inl (by simp)) _,.inl (by cases ao<;>rfl)⟩;simp[tV h.cell]
 clear h N;go_enter func184,ntmps184
 go_wp21
 refine s.mono ?_;rintro e w' ⟨rfl,X⟩;subst X
 go_wp21
 go_region;go_wp2;go_ret;exact⟨rfl,y⟩
def tD (xs:kV) (x:jk):(x∉xs/\posOf xs x= -1)\/∃n:Nat,posOf xs x=n/\n < xs.length/\n=xs.idxOf x/\xs[n]?=some x:=by
 unfold posOf
 by_cases f:x∈xs
 .have d:=List.idxOf_lt_length_iff.2 f;rw[gJ d];exact .inr ⟨_,rfl,d,rfl,by rw[qB d];simp⟩
 .rw[gV (λd=>f (List.idxOf_lt_length_iff.1 d))];exact .inl ⟨f,rfl⟩
def D6 {n : Nat} (d:n=xs.idxOf x):xs.take n++xs.drop (n+1)=xs.erase x:=by
 rw[<-List.eraseIdx_eq_take_drop_succ,d,List.erase_eq_eraseIdx_of_idxOf rfl]
def o9.refl (h:xR base b j tB C v xs w):o9 base b j tB C v xs w w:=by
 have e:C.setIfInBounds j v=C:=by
  have:=h.cell;apply Array.ext_getElem?;intro i
  by_cases d:j=i
  .grind
  .grind
 exact⟨v,by grind,Kept.refl _ _,.inl rfl⟩
def Ba (base b j:Nat) (tB:TypeId) (C:jN) (v:gQ) (xs:kV) (x:jk) (w:gx) (h:xR base b j tB C v xs w) (he:∀x∈xs,us w x) (hx:us w x):
  Calls prog 187 #[jO b j,kI x] w λe w'=>e=pE/\o9 base b j tB C v (xs.erase x) w w':=by
 have c1:=h.at;have y:=FC v xs x w (h.Xd he) hx h.le;rcases tD xs x with⟨U,V⟩|⟨n,V,a0,hn,_⟩
 .have HF:=o9.refl h;rw[List.erase_of_not_mem U];obtain⟨ao,cap,rfl⟩:=gF h.row;rw[V]at y;clear h;go_enter func187,ntmps187;go_wp2_with fail;refine y.mono ?_;rintro e w' ⟨rfl,Y⟩;subst Y;go_wp2;go_end0
  grind
 .have r:=h.nO;have N:=h.le;rcases h.row.2 with⟨_,e0⟩|⟨g,cap,D,rfl,I,o,R,hm,s,d⟩
  .omega
  rw[Fe]at s d;have HD:=aeT g cap n (n+1) xs.length D w o R s (by omega) (by omega) N (by rw[d];exact row_one xs);rw[show((n+1:Nat):Int)=(n:Int)+1 by omega,show xs.length - (n+1 - n)=xs.length - 1 by omega]at HD;have HN:=fV hn;clear hn;have H:=fV h;have HT:=fV d;rw[V]at y;clear h d;go_enter func187,ntmps187;go_wp2_with fail;refine y.mono ?_;rintro e w' ⟨rfl,Y⟩;subst Y;go_wp2_with fail;refine HD.mono ?_;rintro e Z ⟨rfl,m,J,a1,X,q⟩;have A:=q.at H.iC (by intro l;exact r (by simp at l;rw[l];rfl));have d1:Z.cell? ⟨b,j,none⟩=some (oe g xs.length cap):=by rw[fW A];exact H.cell
  have d2:=gu A j;have H3:=gm A j (oe g (xs.length - 1) cap);have f:(xs.erase x).length=xs.length - 1:=by rw[<-D6 HN.out];simp;omega
  have r2:Z.ownsRow base 72 1 (oe g (xs.length - 1) cap) (xs.erase x).length ((xs.erase x).map kI):=by
   refine⟨by simp,.inr ⟨g,cap,m,by rw[f],I,J,by omega,hm,by omega,?_⟩⟩;rw[Fe,f,X,HT.out,<-D6 HN.out,sj,List.map_take,List.map_drop]
  have H4:=zk (a:=⟨b,j,none⟩) r2 r (oe g (xs.length - 1) cap);have H5:Kept (b::(oe g xs.length cap).ownBlock.toList) w' (Z.setCell ⟨b,j,none⟩ (oe g (xs.length - 1) cap)):=(q.mono (λk hk _=>by simp at hk;subst hk;simp[Value.ownBlock])).setCell (.inl (by simp)) _;have HL:=fV f;clear f;go_wp2;go_end0;exact⟨rfl,_,⟨H3,by simp[tV H.out.cell],H4,H.ne,by grind⟩,H5,.inl rfl⟩
def qi (xs:kV) (x y:jk):kV:=if x∈xs then xs.set (xs.idxOf x) y else xs
def jf (xs:kV) (x y:jk):kV:=if x∈xs then xs.take (xs.idxOf x+1)++[y]++xs.drop (xs.idxOf x+1)else xs
def oI (xs:kV) (x:jk):kV:=((xs.reverse.dropWhile (·≠x)).tail).reverse
def o9.trans {v' : gQ} {ys h : kV} {g : gx}
  (m:xR base b j tB (C.setIfInBounds j v') v' ys w1) (f:Kept (b::v.ownBlock.toList) w w1) (n:v'.ownBlock=v.ownBlock\/∀k,v'.ownBlock=some k->w.heap.size<=k)
  (l:o9 base b j tB (C.setIfInBounds j v') v' h w1 g):o9 base b j tB C v h w g:=by
 have⟨v2,L2,k2,f2⟩:=l;refine⟨v2,by simp_all,f.next k2 ?_,?_⟩
 .grind
 .rcases f2 with e|e
  .grind
  .exact .inr λk d=>j7 f.size (e k d)
def FJ (base b j:Nat) (tB:TypeId) (C:jN) (v:gQ) (xs:kV) (x y:jk) (w:gx) (h:xR base b j tB C v xs w) (Z:∀x∈xs,us w x) (hx:us w x):
  Calls prog 276 #[jO b j,kI x,kI y] w λe w'=>e=pE/\o9 base b j tB C v (qi xs x y) w w':=by
 have c1:=h.at;have o:=FC v xs x w (h.Xd Z) hx h.le;rcases tD xs x with⟨I,N⟩|⟨n,N,a0,D,X⟩;have U:=o9.refl h;have R:qi xs x y=xs:=by unfold qi;rw[gV I]
 rw[R];obtain⟨ao,cap,rfl⟩:=gF h.row;rw[N]at o
 rotate_left
 have J:=h.nO;have A:=h.le;have R:qi xs x y=xs.set n y:=by unfold qi;rw[gJ (uy X),<-D]
 rw[R];rcases h.row.2 with⟨_,e0⟩|⟨g,cap,l,rfl,r,d,H,hm,m,f⟩
 .omega
 rw[Fe]at m f;have s:g≠b:=λe=>J (by rw[e];rfl);have V:∃u,w.cell? ⟨g,n,none⟩=some u:=⟨l[n]'(by omega),by rw[fW d];simp⟩;have⟨u,V⟩:=V;have d2:=gu d n;have U:o9 base b j tB C (oe g xs.length cap) (xs.set n y) w (w.setCell ⟨g,n,none⟩ (kI y)):=by
  have q:(w.setCell ⟨g,n,none⟩ (kI y)).heap[b]?=some (gL C tB):=by rw[Below.heap_setCell w ⟨g,n,none⟩ _ b (ye s)];exact h.iC
  have Y:xR base b j tB C (oe g xs.length cap) (xs.set n y) (w.setCell ⟨g,n,none⟩ (kI y)):=by
   refine⟨q,h.cell,⟨by simp,.inr ⟨g,cap,_,by simp,r,gm d n (kI y),by simpa using H,hm,by simpa using m,?_⟩⟩,h.ne,by simpa using A⟩;have:(l.setIfInBounds n (kI y)).toList=l.toList.set n (kI y):=by simp
   rw[this,List.length_set,Fe,List.take_set,f,List.map_set]
  have⟨v',L',k',f'⟩:=o9.refl Y;exact⟨v',L',(((Kept.refl _ w).setCell (p:=⟨g,n,none⟩) (.inl (by simp[Value.ownBlock])) _).trans k'),by simpa using f'⟩
 have HN:=fV D;rw[N]at o;clear D
 all_goals
  go_enter func276,ntmps276
  go_wp21
  refine o.mono ?_;rintro e w' ⟨rfl,hw⟩;subst hw;go_wp2;go_end0;exact⟨rfl,U⟩
def GN (base b j:Nat) (tB:TypeId) (C:jN) (v:gQ) (xs:kV) (x y:jk) (w:gx) (h:xR base b j tB C v xs w) (he:∀x∈xs,us w x) (hx:us w x) (hl:xs.length < 4096) (hb:base<=w.heap.size):
  Calls prog 376 #[jO b j,kI x,kI y] w λe w'=>e=pE/\o9 base b j tB C v (jf xs x y) w w':=by
 have c1:=h.at;have o:=FC v xs x w (h.Xd he) hx h.le;rcases tD xs x with⟨J,R⟩|⟨n,R,a4,I,HX⟩
 .have r:=o9.refl h;have U:jf xs x y=xs:=by unfold jf;rw[gV J]
  rw[U];obtain⟨ao,cap,rfl⟩:=gF h.row;rw[R]at o;clear h;go_enter func376,ntmps376
  go_wp21
  refine o.mono ?_;rintro e w' ⟨rfl,V⟩;subst V;go_wp2;go_end0;exact⟨rfl,r⟩
 .have N:=h.nO;have a3:=h.le;have U:jf xs x y=xs.take (n+1)++[y]++xs.drop (n+1):=by unfold jf;rw[gJ (uy HX),<-I]
  rw[U];have d:Kept [] w (w.alloc (.cells #[kI y] 72)):=(Kept.refl _ _).alloc _;have v1:=fX w (gL #[kI y] 72);have a1:(w.alloc (gL #[kI y] 72)).heap.size=w.heap.size+1:=by simp
  have a5:=h.row.lt;have X:=ad9 (.inl ⟨rfl,rfl,rfl,rfl,rfl,rfl⟩) base xs.length (n+1) w.heap.size v (kI y) (xs.map kI) (w.alloc (gL #[kI y] 72)) (d.ownsRow h.row (λ_ _=>by simp)) v1 (λe=>by grind) rfl (row_one xs) (by omega) (by omega) (by omega);rw[show((n+1:Nat):Int)=(n:Int)+1 by omega]at X;have a0:=d.at h.iC (by simp);obtain⟨ao,cap,rfl⟩:=gF h.row;have H:=fV h;have HN:=fV I;rw[R]at o;clear h I;go_enter func376,ntmps376
  go_wp21
  refine o.mono ?_;rintro e w' ⟨rfl,V⟩;subst V
  go_wp21
  refine X.mono ?_;rintro e q ⟨v',rfl,f,D,A⟩;have⟨ao',cap',hv⟩:=gF f;subst hv;have Y:Kept (Value.slice ao xs.length cap).ownBlock.toList w' q:=(d.mono (by simp)).trans (S:=(Value.slice ao xs.length cap).ownBlock.toList) D;have s:q.heap[b]?=some (gL C tB):=Y.at H.iC (by simpa using N);have d1:q.cell? ⟨b,j,none⟩=some (.slice ao xs.length cap):=by rw[fW s];exact H.cell
  have d2:=gu s j;have H3:=gm s j (.slice ao' (xs.length+1) cap');have m:(Value.slice ao' (xs.length+1) cap').ownBlock≠some b:=by
   intro Z;rcases f.2 with⟨e,_⟩|⟨g,cap,a2,e,_,hc,_⟩
   .omega
   .grind
  have H4:=zk (a:=⟨b,j,none⟩) f m (.slice ao' (xs.length+1) cap');have H5:Kept (b::(Value.slice ao xs.length cap).ownBlock.toList) w' (q.setCell ⟨b,j,none⟩ (.slice ao' (xs.length+1) cap')):=(Y.mono (λk Z _=>si _ Z)).setCell (.inl (by simp)) _;have l:(Value.slice ao' (xs.length+1) cap').ownBlock=(Value.slice ao xs.length cap).ownBlock\/∀k,(Value.slice ao' (xs.length+1) cap').ownBlock=some k->w'.heap.size<=k:=by
   rcases A with e|e
   .exact .inl e
   .grind
  have r:=l;go_wp2;go_end0;refine⟨rfl,_,⟨H3,by simp[tV H.out.cell],?_,H.ne,by simp;omega⟩,H5,r⟩;have e1:(xs.take (n+1)++[y]++xs.drop (n+1)).length=xs.length+1:=by simp;omega
  simp_all
def XK (x:jk):oI [] x=[]:=rfl
def Uf (xs:kV) (y x:jk):oI (xs++[y]) x=if y=x then xs else oI xs x:=by
 unfold oI;rw[Ns]
 by_cases h:y=x
 all_goals simp_all
def Jt (xs:kV) (y:jk):iE (xs++[y]) (((xs++[y]).length:Int) - 1)=y:=by
 unfold iE;rw[gJ (by grind)];simp
def Bb (a:Addr) (w:gx):Nat:=match w.cell? a with
 |some (.slice _ n _)=>n
 |_=>0
def xR.Bb (h:xR base b j tB C v xs w):Bb ⟨b,j,none⟩ w=xs.length:=by
 obtain⟨ao,cap,rfl⟩:=gF h.row;unfold YtlhhgenpcjjajaaGreatDoor.Bb;rw[h.at]
def us.kept (h:us w x) (g:Kept S w w') (f:∀k,x=some k->k∉S):us w' x:=by
 intro k d;have⟨c,hc⟩:=h k d;exact⟨c,g.at hc (f k d)⟩
def Jg (h:xR base b j tB C v xs w) (m:tB≠140) (o:us w x):∀k,x=some k->k∉b::v.ownBlock.toList:=by
 intro k n d;have⟨c,hc⟩:=o k n;rcases List.mem_cons.1 d with rfl|d
 .exact yH h.iC hc m rfl
 .rcases h.row.2 with⟨e,_⟩|⟨g,cap,l,e,_,f,_⟩
  .rw[e]at d;simp[Value.ownBlock]at d
  .rw[e]at d;simp[Value.ownBlock]at d
   grind
def Vo (base b j:Nat) (tB:TypeId) (C:jN) (v:gQ) (xs:kV) (x:jk) (w:gx) (h:xR base b j tB C v xs w) (Y:tB≠140) (Z:∀x∈xs,us w x) (hx:us w x):
  Calls prog 328 #[jO b j,kI x] w λe w'=>e=pE/\o9 base b j tB C v (oI xs x) w w':=by
 have h0:=o9.refl h;have hE:=Z;have hX:=hx;have hO:=(λy hy=>Jg h Y (Z y hy));have J:=Jg h Y hx;go_enter func328,ntmps328;go_wp2
 go_loopw [9] (λ_ wr=>∃g,(∀y∈g,y∈xs)/\oI g x=oI xs x/\o9 base b j tB C v g w wr) (λ_ wr=>Bb ⟨b,j,none⟩ wr)
 case atStart=>grind
 case round=>
  have⟨g,hS,hpt,v',L1,k1,f1⟩:=hrel;have o:=L1.Bb;have I:=L1.at;have⟨ao,cap,hv⟩:=gF L1.row;have N:g=[]\/∃f y,g=f++[y]:=by
   rcases V5 g with h|⟨f,y,h⟩
   .grind
   .grind
  rcases N with rfl|⟨f,y,rfl⟩
  .rw[hv]at I;have A:=(show o9 base b j tB C v (oI xs x) w wr from⟨v',by rw[<-hpt,XK];exact L1,k1,f1⟩);clear L1 o;go_wp2;go_end0
   grind
  .rw[hv]at I;have n:0 < (f++[y]).length:=by simp
   have V:=aeg base b j tB _ v' _ wr L1;rw[Jt]at V;have HY:us w y:=hE y (hS y (by simp));have D:=hO y (hS y (by simp));have HT:=(λ(r:gx) (h2:o9 base b j tB (C.setIfInBounds j v') v' (f++[y]).dropLast wr r)=>o9.trans L1 k1 f1 h2);have HL:=fV L1;have hq:=fV (show oI xs x=if y=x then f else oI f x by rw[<-hpt,Uf]);have q:=fV o;obtain⟨m,s⟩:∃m,m=(f++[y]).length:=⟨_,rfl⟩;rw[<-s]at I n q;have HM:=fV s;have a0:m<=4096:=by rw[s];exact L1.le
   clear L1 o s
   go_wp21
   refine V.mono ?_;rintro e r ⟨rfl,R⟩;have X:=HT r R;rw[Wb]at X;have⟨v2,L2,k2,f2⟩:=X;have l:=Da (HY.kept k2 D) (hX.kept k2 J);have U:=fV L2.Bb
   by_cases d:y=x
   .rw[wj d]at l;have A:=(show o9 base b j tB C v (oI xs x) w r from⟨v2,by rw[hq.out,gJ d];exact L2,k2,f2⟩);clear L2 d;go_wp2
    (try simp only[Exit.inBlock,Exit.then])
    refine oR (Hl rfl _ _ _) rfl ?_
    grind
   .rw[yd d]at l;have A:=(show o9 base b j tB C v f w r from⟨v2,L2,k2,f2⟩);have H:=fV d;clear L2 d;go_wp2;go_roundw
    case rel=>exact⟨f,λz o=>hS z (by simp[o]),by rw[hq.out,gV H.out],A⟩
    case measure=>rw[U.out,q.out,HM.out];simp
attribute [local go_sem] Oper.semAt_some
def kP (K:List Nat) (W d:gx):Prop:=∀k∈K,d.heap[k]?=W.heap[k]?
def kP.refl (K:List Nat) (W:gx):kP K W W:=λ_ _=>rfl
def kP.trans {A B C : gx} (h:kP K A B) (k:kP K B C):kP K A C:=λx d=>(k x d).trans (h x d)
def kP.jQ {d : gx} (h:Kept S W d) (f:∀k∈K,k < W.heap.size/\k∉S):kP K W d:=λk g=>h.block k (f k g).1 (f k g).2
def kP.put (f:∀k∈K,k < w.heap.size) (W:gx) (l:Nat) (o d:Obj) (h:w.heap.size<=l) (_:W.heap[l]?=some o) (_:o.isCells=false) (_:o.isWalk=false):kP K W (W.putObj l d):=
 λk g=>qC (by grind)
def xR.FG (h:xR base b j tB C v xs w) (l:kP K w w') (m:b∈K) (o:∀k,v.ownBlock=some k->k∈K):xR base b j tB C v xs w':=by
 refine⟨(l b m).trans h.iC,h.cell,⟨h.row.1,?_⟩,h.ne,h.le⟩;rcases h.row.2 with e|⟨g,cap,d,e,f,n,r⟩
 .grind
 .exact .inr ⟨g,cap,d,e,f,(l g (o g (by rw[e];rfl))).trans n,r⟩
def afH (m:Nat) (a6:1<=m) (base b j:Nat) (tB:TypeId) (C:jN) (v:gQ) (xs:kV) (n bN A l:Nat) (K:List Nat) (J Jx:List {x:jk // x∈xs}->gx->Prop)
  (hn:n<=xs.length) (a1:b∈K) (a0:A∈K) (a2:∀k,v.ownBlock=some k->k∈K)
  (hY:∀pre x W,J pre W->pre.length < n->YieldAt Fence.wide (m - 1) prog l #[kI x.1] W λe y=>
   (e=iw (.bool true)/\J (pre++[x]) y/\kP K W y)\/(e=iw (.bool false)/\Jx (pre++[x]) y))
  (W:gx) (h:xR base b j tB C v xs W) (hN:W.cell? ⟨bN,0,none⟩=some (gh n)) (hL:W.cell? ⟨A,0,none⟩=some (jO b j)) (h0:J [] W):
  CallsIn Fence.wide m prog 357 #[.func (.yield l) #[] #[],gN bN,gN A] W λe y=>(∃r,e=iw r)/\
   ((∃ys,ys.map (·.1)=(xs.take n).reverse/\J ys y)\/(∃pre,pre.map (·.1) <+:(xs.take n).reverse/\Jx pre y)):=by
 refine callsIn_of_wp func357 rfl trivial ?_ rfl;simp only[ntmps357,yf,uk,xI,Nat.reduceAdd,Nat.reduceSub,yg,yh,yi,yj,sg,wo];have a4:=h.le;have HL:=fV h;clear h;have HY:=fV hY;clear hY;gi_wp2
 gi_loopw [4] (λi wr=>∃(k:Nat) (pre:List {x:jk // x∈xs}),k<=n/\pre.length=k/\i=gh ((n:Int) - 1 - k)/\pre.map (·.1)=(xs.take n).reverse.take k/\kP K W wr/\J pre wr)
  (λi _=>((intOf i)+1).toNat)
 case atStart=>grind[kP]
 case round=>
  obtain⟨k,pre,hk,a7,rfl,s,f,hJ⟩:=hrel;have L1:=HL.out.FG f a1 a2;have cL:wr.cell? ⟨A,0,none⟩=some (jO b j):=(abk (w:=W) (f A a0)).trans hL;have HP:=fV s;have V:=fV f;clear s f
  by_cases a5:k < n
  .obtain⟨q,hq⟩:∃q:Nat,q=n - 1 - k:=⟨_,rfl⟩;have N:(n:Int) - 1 - k=(q:Int):=by omega
   have g:q < xs.length:=by omega
   rw[N];have Y:=Z5 base b j tB C v xs (q:Int) wr L1;have hg:iE xs (q:Int)=xs[q]:=by unfold iE;rw[gJ (by omega)];simp[g]
   rw[hg]at Y;have HA:=fV Y;have⟨fn,tmps,assign,body,hy,hR⟩:=HY.out pre ⟨xs[q],uw g⟩ wr hJ (by omega);dsimp only at hy;have d:(pre++[(⟨xs[q],uw g⟩:{x:jk // x∈xs})]).map (·.1)=(xs.take n).reverse.take (k+1):=by
    have I:(xs.take n).length=n:=by simp;omega
    have e1:(xs.take n).reverse[k]?=some xs[q]:=by
     rw[SJ (by omega),I,Fc,gJ (by omega),show n - 1 - k=q from hq.symm,qB g]
    rw[sj,HP.out,Ff,e1];rfl
   have HS:=fV d;have HR:=fV hR;have HQ:=fV hq;clear Y hg d hR L1 hq N
   gi_wp2_with (refine⟨trivial,?_⟩;gi_at_call 248;refine(callsIn_wide.2 HA.out).mono ?_;rintro e w' ⟨rfl,rfl⟩)
   refine HR.out.mono ?_;rintro e W3 (⟨rfl,Z,H⟩|⟨rfl,D⟩)
   .have U:=fV (V.out.trans H);clear H;gi_wp2;go_roundw
    case rel=>exact⟨k+1,_,by omega,by grind,by have:=HQ.out;grind,HS.out,U.out,Z⟩
    case measure=>simp[intOf]
   .gi_wp2;refine oR (Hl rfl _ _ _) rfl ?_;refine⟨⟨_,rfl⟩,.inr ⟨_,?_,D⟩⟩;rw[HS.out];exact List.take_prefix _ _
  .have a3:k=n:=by omega
   have R:pre.map (·.1)=(xs.take n).reverse:=by
    rw[HP.out,BF (by grind)]
   have X:=fV R;have o:(n:Int) - 1 - k= -1:=by omega
   rw[o];clear R a3 o;gi_wp2;go_end0;exact⟨⟨_,rfl⟩,.inl ⟨pre,X.out,hJ⟩⟩
abbrev mX (b j:Nat) (n:Int) (w:gx):gx:=(w.alloc (gL #[jO b j] 280)).alloc (gL #[gh n] 3)
abbrev vJ (s:Nat):gQ:= .func (.func 357) #[] #[gN (s+1),gN s]
def Nq (b j:Nat) (n:Int) (w:gx):
  Calls prog 330 #[jO b j,gh n] w λe w'=>e=iw (vJ w.heap.size)/\w'=mX b j n w:=by
 go_enter func330,ntmps330;go_wp2;go_ret;simp
def Xu (base b j:Nat) (tB:TypeId) (C:jN) (v:gQ) (xs:kV) (w:gx) (h:xR base b j tB C v xs w):
  Calls prog 294 #[jO b j] w λe w'=>e=iw (vJ w.heap.size)/\w'=mX b j xs.length w:=by
 have g:=h.at;obtain⟨ao,cap,rfl⟩:=gF h.row;have H:=Nq b j xs.length w;go_enter func294,ntmps294
 go_wp21
 refine H.mono ?_;rintro e w' ⟨rfl,d⟩;have f:=fV d;clear d;go_wp2;go_ret;exact⟨rfl,f⟩
def acy (base b j:Nat) (tB:TypeId) (C:jN) (v:gQ) (xs:kV) (x:jk) (w:gx) (h:xR base b j tB C v xs w) (l:∀x∈xs,us w x) (m:us w x):
  Calls prog 385 #[jO b j,kI x] w λe w'=>e=iw (vJ w.heap.size)/\w'=mX b j (posOf xs x) w:=by
 have n:=h.at;have f:=FC v xs x w (h.Xd l) m h.le;obtain⟨ao,cap,rfl⟩:=gF h.row;have H:=Nq b j (posOf xs x) w;generalize posOf xs x=q at H f|-;go_enter func385,ntmps385
 go_wp21
 refine f.mono ?_;rintro e w' ⟨rfl,d⟩;subst d
 go_wp21
 refine H.mono ?_;rintro e w' ⟨rfl,d⟩;have g:=fV d;clear d;go_wp2;go_ret;exact⟨rfl,g⟩
def Sx (m:Nat) (A:1<=m) (base b j:Nat) (tB:TypeId) (C:jN) (v:gQ) (xs:kV) (n s:Nat) (K:List Nat) (w:gx)
  (h:xR base b j tB C v xs w) (V:n<=xs.length) (o:b∈K) (g:s∈K) (q:∀k,v.ownBlock=some k->k∈K) (y:s+1 < w.heap.size)
  (R:w.heap[s+1]?=some (gL #[gh n] 3)) (N:w.heap[s]?=some (gL #[jO b j] 280)):
  SeqStopsK Fence.wide m prog 357 #[gN (s+1),gN s] (λx:{x:jk // x∈xs}=>#[kI x.1]) (kP K)
   (λX=>X.map (·.1)=(xs.take n).reverse) (λpre=>pre.map (·.1) <+:(xs.take n).reverse) n w:=by
 intro l J D W f _ _ U I;have r:=iX h.iC;have H:xR base b j tB C v xs W:=by
  refine h.FG (K:=b::v.ownBlock.toList) (λk d=>f.block k ?_) (by simp) (λk d=>by simp[d]);rcases List.mem_cons.1 d with rfl|d
  .exact r
  .exact(h.row.lt k (by grind)).2
 exact afH m A base b j tB C v xs n (s+1) s l K J D V o g q U W H (by rw[fW ((f.block _ y).trans R)];rfl) (by rw[fW ((f.block _ (by omega)).trans N)];rfl) I
def la (a b:gz):Bool:=a.toList==b.toList
def xZ {a b : gz}:la a b=true↔a=b:=by
 unfold la;rw[tJ,tJ,beq_iff_eq];exact⟨λh=>WideShapes.bytes_inj h,λh=>by rw[h]⟩
def Zy {a b : gz}:la a b=false↔a≠b:=by rw[Ne,<-xZ];simp
def im (d:List gz) (x:gz):Bool:=d.any (la x)
def Rq (d:List gz) (s:gz):Int:=if d.findIdx (la s) < d.length then (d.findIdx (la s):Int)else -1
def acT {xs : List gz} {x : gz} (m:k < xs.length) (h:xs[k]=x) (g:∀j,j < k->xs[j]?≠some x):Rq xs x=k:=by
 have o:xs.findIdx (la x)=k:=by
  have f:xs.findIdx (la x) < xs.length:=abm ⟨x,h▸uw m,xZ.2 rfl⟩;have l:¬xs.findIdx (la x) < k:=λd=>g _ d (by
   rw[qB f];exact sn some (xZ.1 (List.findIdx_getElem (w:=f))).symm)
  have n:¬k < xs.findIdx (la x):=λd=>by
   have:=List.not_of_lt_findIdx d;rw[h]at this;exact absurd (xZ.2 rfl) (by simpa using this)
  omega
 grind[Rq]
def acU {xs : List gz} {x : gz} (d:∀j,j < xs.length->xs[j]?≠some x):Rq xs x= -1:=by
 unfold Rq;rw[gV];intro h;exact d _ h (by rw[qB h];exact sn some (xZ.1 (List.findIdx_getElem (w:=h))).symm)
def aaz (xs:List gz) (x:gz):decide (0<=Rq xs x)=im xs x:=by
 grind[Rq,im]
def acn (g cap:Nat) (d:List gz) (x:gz) (w:gx) (s:∀k,(I:k < d.length)->w.cell? ⟨g,k,none⟩=some (gH d[k])) (J:d.length<=4096):
  Calls prog 329 #[oe g d.length cap,gH x] w λe w'=>e=iw (gh (Rq d x))/\w'=w:=by
 have A:=fV s;clear s;go_enter func329,ntmps329;go_wp2
 go_loopw [8] (λi wr=>∃k:Nat,k<=d.length/\i=gh k/\wr=w/\∀j,j < k->d[j]?≠some x) (λi _=>d.length - (intOf i).toNat)
 case atStart=>grind
 case round=>
  obtain⟨k,I,rfl,rfl,q⟩:=hrel
  by_cases f:k < d.length
  .have D:=A k f;obtain⟨y,o⟩:∃y,y=d[k]:=⟨_,rfl⟩;rw[<-o]at D;have r:=fV o;clear o
   by_cases l:x=y
   .have n:=fV (acT f (r.symm.trans l.symm) q);subst l;go_wp2;go_ret;exact⟨by rw[n.out];rfl,rfl⟩
   .have m:=l;have N:(x.toList==y.toList)=false:=Zy.2 l;go_wp2;go_roundw
    case rel=>
     refine⟨k+1,by omega,by go_num,by simp,λj H=>?_⟩
     by_cases e:j=k
     .subst e;rw[qB f];exact λh=>m ((jy h).symm.trans r.symm)
     grind
    case measure=>simp[intOf];omega
  .have n:=fV (acU (xs:=d) (x:=x) (λj H=>q j (by omega)));go_wp2;go_ret;exact⟨by rw[n.out];rfl,rfl⟩
def N1 (g cap:Nat) (d:List gz) (x:gz) (w:gx) (l:∀k,(hk:k < d.length)->w.cell? ⟨g,k,none⟩=some (gH d[k])) (h:d.length<=4096):
  Calls prog 292 #[oe g d.length cap,gH x] w λe w'=>e=iw (.bool (im d x))/\w'=w:=by
 have H:=acn g cap d x w l h;have f:=fV (aaz d x);generalize Rq d x=q at H f;generalize im d x=r at f|-;go_enter func292,ntmps292
 go_wp21
 refine H.mono ?_;rintro e w' ⟨rfl,rfl⟩;go_wp2;go_ret;exact⟨by rw[<-f.out];rfl,rfl⟩
structure oz (E:List Nat) (v:gQ) (p:gz->Bool) (w:gx):Prop where
 ex:∃k lb,v= .func (.func k) #[] lb/\Enters prog k/\∀W,kP E w W->∀s,Calls prog k (#[gH s]++lb) W λe W'=>e=iw (.bool (p s))/\W'=W
 lt:∀e∈E,e < w.heap.size
def oz.keeps (h:oz E v p w) (m:kP E w w') (o:w.heap.size<=w'.heap.size):oz E v p w':=by
 obtain⟨⟨k,q,rfl,l,g⟩,n⟩:=h;exact⟨⟨k,q,rfl,l,λW f s=>g W (m.trans f) s⟩,λe d=>mi (n e d) o⟩
def oz.kept (h:oz E v p w) (f:Kept S w w') (g:∀e∈E,e∉S):oz E v p w':=
 h.keeps (kP.jQ f λk d=>⟨h.lt k d,g k d⟩) f.size
def oz.io (h:oz E v p w) (d:Kept [] w w'):oz E v p w':=h.kept d (λ_ _=>by simp)
def oE (h:kP E w W) (d:b∈E) (f:w.heap[b]?=some (gL c t)):W.heap[b]?=some (gL c t):=(h b d).trans f
def ZX (bs g cap:Nat) (d:List gz) (w:gx) (m:w.heap[bs]?=some (gL #[oe g d.length cap] 204)) (n:w.heap[g]?=some (gL (d.map Value.string).toArray 9)) (f:d.length<=4096):
  oz [bs,g] (.func (.func 291) #[] #[gN bs]) (im d) w:=by
 refine⟨⟨_,_,rfl,enters_of func291 (by rfl) rfl,λW h s=>?_⟩,λe o=>?_⟩
 .have l:=fW (oE h (by simp) m) 0;dsimp at l;have H:=N1 g cap d s W (λk q=>by rw[fW (oE h (by simp) n)];simp) f;show Calls prog 291 #[gH s,gN bs] W _;generalize im d s=r at H|-;go_enter func291,ntmps291
  go_wp21
  refine H.mono ?_;rintro e w' ⟨rfl,rfl⟩;go_wp2;go_ret;simp
 grind
def aea (g cap:Nat) (n:Nat) (w:gx):
  Calls prog 225 #[oe g n cap] w λe w'=>e=iw (.func (.func 291) #[] #[gN w.heap.size])/\w'=w.alloc (gL #[oe g n cap] 204):=by
 go_enter func225,ntmps225;go_wp2;go_ret;simp
def kP.sub {K' : List Nat} {A B : gx} (h:kP K A B) (f:∀k∈K',k∈K):kP K' A B:=λk d=>h k (f k d)
def afu (h l:Nat) (y A:List Nat) (v1 v2:gQ) (p q:gz->Bool) (w:gx) (X:w.heap[h]?=some (gL #[v1] 89)) (Y:w.heap[l]?=some (gL #[v2] 89)) (D:oz y v1 p w) (H:oz A v2 q w):
  oz (h::l::(y++A)) (.func (.func 299) #[] #[gN h,gN l]) (λs=>p s||q s) w:=by
 refine⟨⟨_,_,rfl,enters_of func299 (by rfl) rfl,λW m s=>?_⟩,λe f=>?_⟩
 .have U:=fW (oE m (by simp) X) 0;have V:=fW (oE m (by simp) Y) 0;dsimp at U V;obtain⟨I,Z,rfl,e1,N⟩:=D.ex;obtain⟨J,a0,rfl,e2,R⟩:=H.ex;have g:=N W (m.sub (λk n=>by simp[n])) s;have o:=R W (m.sub (λk n=>by simp[n])) s;have f1:∀d w,(callFunc I d).run prog w= .ok (.enter I d) w:=e1;have f2:∀d w,(callFunc J d).run prog w= .ok (.enter J d) w:=e2;show Calls prog 299 #[gH s,gN h,gN l] W _;cases hps:p s with
  |true=>
   rw[hps]at g;go_enter func299,ntmps299
   go_wp21
   refine g.mono ?_;rintro e w' ⟨rfl,rfl⟩;go_wp2;go_ret;simp
  |false=>
   rw[hps]at g;generalize q s=r at o|-;go_enter func299,ntmps299
   go_wp21
   refine g.mono ?_;rintro e w' ⟨rfl,rfl⟩
   go_wp21
   refine o.mono ?_;rintro e w' ⟨rfl,rfl⟩;go_wp2;go_ret;simp
 .simp at f;rcases f with rfl|rfl|f|f
  .grind
  .grind
  .exact D.lt e f
  .exact H.lt e f
def abT (h l:Nat) (y A:List Nat) (v1 v2:gQ) (p q:gz->Bool) (w:gx) (X:w.heap[h]?=some (gL #[v1] 89)) (Y:w.heap[l]?=some (gL #[v2] 89)) (D:oz y v1 p w) (H:oz A v2 q w):
  oz (h::l::(y++A)) (.func (.func 324) #[] #[gN h,gN l]) (λs=>p s&&!q s) w:=by
 refine⟨⟨_,_,rfl,enters_of func324 (by rfl) rfl,λW m s=>?_⟩,λe f=>?_⟩
 .have U:=fW (oE m (by simp) X) 0;have V:=fW (oE m (by simp) Y) 0;dsimp at U V;obtain⟨I,Z,rfl,e1,N⟩:=D.ex;obtain⟨J,a0,rfl,e2,R⟩:=H.ex;have g:=N W (m.sub (λk n=>by simp[n])) s;have o:=R W (m.sub (λk n=>by simp[n])) s;have f1:∀d w,(callFunc I d).run prog w= .ok (.enter I d) w:=e1;have f2:∀d w,(callFunc J d).run prog w= .ok (.enter J d) w:=e2;show Calls prog 324 #[gH s,gN h,gN l] W _;cases hps:p s with
  |true=>
   rw[hps]at g;generalize q s=r at o|-;go_enter func324,ntmps324
   go_wp21
   refine g.mono ?_;rintro e w' ⟨rfl,rfl⟩
   go_wp21
   refine o.mono ?_;rintro e w' ⟨rfl,rfl⟩;go_wp2;go_ret;simp
  |false=>
   rw[hps]at g;go_enter func324,ntmps324
   go_wp21
   refine g.mono ?_;rintro e w' ⟨rfl,rfl⟩;go_wp2;go_ret;simp
 .simp at f;rcases f with rfl|rfl|f|f
  .grind
  .grind
  .exact D.lt e f
  .exact H.lt e f
def acF (f:Nat) (l:List Nat) (v1:gQ) (p:gz->Bool) (w:gx) (A:w.heap[f]?=some (gL #[v1] 89)) (n:oz l v1 p w):
  oz (f::l) (.func (.func 298) #[] #[gN f]) (λs=>!p s) w:=by
 refine⟨⟨_,_,rfl,enters_of func298 (by rfl) rfl,λW m s=>?_⟩,λe g=>?_⟩
 .have y:=fW (oE m (by simp) A) 0;dsimp at y;obtain⟨o,H,rfl,e1,q⟩:=n.ex;have h:=q W (m.sub (λk D=>by simp[D])) s;have I:∀d w,(callFunc o d).run prog w= .ok (.enter o d) w:=e1;show Calls prog 298 #[gH s,gN f] W _;generalize p s=r at h|-;go_enter func298,ntmps298
  go_wp21
  refine h.mono ?_;rintro e w' ⟨rfl,rfl⟩;go_wp2;go_ret;simp
 .simp at g;rcases g with rfl|g
  .grind
  .exact n.lt e g
def acP (f g:List Nat) (v1 v2:gQ) (p q:gz->Bool) (w:gx) (m:oz f v1 p w) (n:oz g v2 q w):
  Calls prog 245 #[v1,v2] w λe w'=>(∃v,e=iw v/\oz (w.heap.size::(w.heap.size+1)::(f++g)) v (λs=>p s||q s) w'/\w'.heap[w.heap.size]?=some (gL #[v1] 89)/\w'.heap[w.heap.size+1]?=some (gL #[v2] 89))/\Kept [] w w':=by
 have h:Calls prog 245 #[v1,v2] w λe w'=>e=iw (.func (.func 299) #[] #[gN w.heap.size,gN (w.heap.size+1)])/\w'=(w.alloc (gL #[v1] 89)).alloc (gL #[v2] 89):=by
  obtain⟨o,r,rfl,_,_⟩:=m.ex;obtain⟨d,y,rfl,_,_⟩:=n.ex;go_enter func245,ntmps245;go_wp2;go_ret;exact⟨by simp,rfl⟩
 refine h.mono ?_;rintro e w' ⟨rfl,rfl⟩;have o:Kept [] w (w.alloc (gL #[v1] 89)):=(Kept.refl _ _).alloc _;have d:=o.alloc (gL #[v2] 89);have l:=fX (w.alloc (gL #[v1] 89)) (gL #[v2] 89);rw[xJ]at l;exact⟨⟨_,rfl,afu _ _ f g v1 v2 p q _ ((Below.heap_alloc _ _ _ (by simp)).trans (fX w _)) l (m.io d) (n.io d),(Below.heap_alloc _ _ _ (by simp)).trans (fX w _),l⟩,d⟩
def Y1 (f g:List Nat) (v1 v2:gQ) (p q:gz->Bool) (w:gx) (m:oz f v1 p w) (n:oz g v2 q w):
  Calls prog 280 #[v1,v2] w λe w'=>(∃v,e=iw v/\oz (w.heap.size::(w.heap.size+1)::(f++g)) v (λs=>p s&&!q s) w'/\w'.heap[w.heap.size]?=some (gL #[v1] 89)/\w'.heap[w.heap.size+1]?=some (gL #[v2] 89))/\Kept [] w w':=by
 have h:Calls prog 280 #[v1,v2] w λe w'=>e=iw (.func (.func 324) #[] #[gN w.heap.size,gN (w.heap.size+1)])/\w'=(w.alloc (gL #[v1] 89)).alloc (gL #[v2] 89):=by
  obtain⟨o,r,rfl,_,_⟩:=m.ex;obtain⟨d,y,rfl,_,_⟩:=n.ex;go_enter func280,ntmps280;go_wp2;go_ret;exact⟨by simp,rfl⟩
 refine h.mono ?_;rintro e w' ⟨rfl,rfl⟩;have o:Kept [] w (w.alloc (gL #[v1] 89)):=(Kept.refl _ _).alloc _;have d:=o.alloc (gL #[v2] 89);have l:=fX (w.alloc (gL #[v1] 89)) (gL #[v2] 89);rw[xJ]at l;exact⟨⟨_,rfl,abT _ _ f g v1 v2 p q _ ((Below.heap_alloc _ _ _ (by simp)).trans (fX w _)) l (m.io d) (n.io d),(Below.heap_alloc _ _ _ (by simp)).trans (fX w _),l⟩,d⟩
def aak (d:List Nat) (v1:gQ) (p:gz->Bool) (w:gx) (g:oz d v1 p w):
  Calls prog 244 #[v1] w λe w'=>(∃v,e=iw v/\oz (w.heap.size::d) v (λs=>!p s) w'/\w'.heap[w.heap.size]?=some (gL #[v1] 89))/\Kept [] w w':=by
 have h:Calls prog 244 #[v1] w λe w'=>e=iw (.func (.func 298) #[] #[gN w.heap.size])/\w'=w.alloc (gL #[v1] 89):=by
  obtain⟨f,l,rfl,_,_⟩:=g.ex;go_enter func244,ntmps244;go_wp2;go_ret;exact⟨rfl,rfl⟩
 refine h.mono ?_;rintro e w' ⟨rfl,rfl⟩;have f:Kept [] w (w.alloc (gL #[v1] 89)):=(Kept.refl _ _).alloc _;exact⟨⟨_,rfl,acF _ d v1 p _ (fX w _) (g.io f),fX w _⟩,f⟩
open Go.ChangeMaps (setBlock)
def U2 (a b:gz):(a==b)=la a b:=by
 have h:(a==b)=(a.data==b.data):=rfl;rw[h]
 by_cases e:a=b
 .grind[la]
 .rw[Zy.2 e];have:a.data≠b.data:=λd=>e (by cases a;simp_all)
  grind
def kvE (e:MapEntry):gQ×gQ:=(e.key,e.val)
def kvP (p:gz×gQ):gQ×gQ:=(gH p.1,p.2)
def ZE:List (gz×gQ)->gz->Nat->Option (Nat×gQ)
 |[],_,_=>none
 |p::L,k,i=>if la k p.1 then some (i,p.2)else ZE L k (i+1)
def AF:List (gz×gQ)->gz->Option gQ
 |[],_=>none
 |p::L,k=>if la k p.1 then some p.2 else AF L k
def Dn:List (gz×gQ)->gz->gQ->List (gz×gQ)
 |[],k,v=>[(k,v)]
 |p::L,k,v=>if la k p.1 then (k,v)::L else p::Dn L k v
def Qw:∀(L:List (gz×gQ)) (k:gz) (i:Nat),(ZE L k i).map (·.2)=AF L k
 |[],_,_=>rfl
 |p::L,k,i=>by
  unfold ZE AF;split
  .rfl
  .exact Qw L k (i+1)
def Qx:∀(L:List (gz×gQ)) (k:gz) (i:Nat) (v:gQ),ZE L k i=none->Dn L k v=L++[(k,v)]
 |[],_,_,_,_=>rfl
 |p::L,k,i,v,h=>by
  unfold ZE at h;split at h
  .cases h
  .rename_i d;unfold Dn;rw[gV d,Qx L k (i+1) v h];rfl
def Qy:∀(L:List (gz×gQ)) (k:gz) (i j:Nat) (u v:gQ),ZE L k i=some (j,u)->∃n,j=i+n/\n < L.length/\(L[n]?).map (·.1)=some k/\Dn L k v=L.set n (k,v)
 |[],_,_,_,_,_,h=>by cases h
 |p::L,k,i,j,u,v,h=>by
  unfold ZE at h;split at h
  .rename_i d;cases h;refine⟨0,rfl,by simp,?_,?_⟩
   .simp[(xZ.1 d)]
   grind[Dn]
  .rename_i d;have⟨n,e1,e2,e3,e4⟩:=Qy L k (i+1) j u v h;refine⟨n+1,by omega,by grind,by grind,?_⟩
   grind[Dn]
def Od (k:gz):∀(d:List MapEntry) (L:List (gz×gQ)) (i:Nat),d.map kvE=L.map kvP->Instr.findNow .string (gH k) d i=some (ZE L k i)
 |[],[],_,_=>rfl
 |[],_::_,_,h=>by simp at h
 |_::_,[],_,h=>by simp at h
 |e::d,p::L,i,h=>by
  simp only[Aj,SK]at h;have f:e.key=gH p.1:=sn Prod.fst h.1;have g:e.val=p.2:=sn Prod.snd h.1;unfold Instr.findNow ZE;simp only[f,Instr.sameNow,U2];cases hf:la k p.1
  .exact Od k d L (i+1) h.2
  grind
def sW (w:gx) (b:Nat) (L:List (gz×gQ)):Prop:=∃f d,w.heap[b]?=some (.map f d)/\f.toList.map kvE=L.map kvP
def sW.keeps (h:sW w b L) (e:w'.heap[b]?=w.heap[b]?):sW w' b L:=by
 grind[sW]
def sW.lt (h:sW w b L):b < w.heap.size:=by
 have⟨es,clock,ha,_⟩:=h
 grind
def sW.kept (h:sW w b L) (f:Kept S w w') (d:b∉S):sW w' b L:=h.keeps (f.block b h.lt d)
def sW.new (w:gx):sW (w.alloc (.map #[] 0)) w.heap.size []:=⟨#[],0,fX w _,rfl⟩
def A9 (h:Kept S a w) (g:b∈S\/a.heap.size<=b) (o:Obj):Kept S a (setBlock w b o):=
 ⟨h.os,h.tape,h.output,by show a.heap.size<=(w.heap.setIfInBounds b o).size;rw[SL];exact h.size,λk d f=>by
  show(w.heap.setIfInBounds b o)[k]?=_;rw[Cx (by grind)];exact h.block k d f⟩
def EK (h:b < w.heap.size) (o:Obj):(setBlock w b o).heap[b]?=some o:=by
 show(w.heap.setIfInBounds b o)[b]?=_
 grind
def FV {E : TypeId} {z : gQ} (g:prog.underlying T=some (.map 9 E)) (n:∀w,(zeroValue E).run prog w= .ok z w) (h:sW w b L) (k:gz):
  (Instr.lookup T (.map (some b)) (gH k) false).run prog w= .ok ((AF L k).getD z) w:=by
 have⟨es,clock,ha,hl⟩:=h;have m:(underlying 9).run prog w= .ok .string w:=ql underlying9 _;have l:∀x,(Instr.checkKey x 10000 9 (gH k)).run prog w= .ok () w:=λx=>by
  unfold Instr.checkKey;simp
 have d:=Od k es.toList L 0 hl;have f:=Qw L k 0;cases hq:ZE L k 0 with
 |none=>
  rw[hq]at d f;rw[<-f];simp[Instr.lookup,ql g,K8 ha,l,Instr.findKey,m,d,n,Result.andThen]
 |some p=>
  rw[hq]at d f;rw[<-f];simp[Instr.lookup,ql g,K8 ha,l,Instr.findKey,m,d,Result.andThen]
def RX {E : TypeId} (q:prog.underlying T=some (.map 9 E)) (h:sW w b L) (k:gz) (v:gQ):
  ∃w',(Instr.mapUpdate T (.map (some b)) (gH k) v).run prog w= .ok () w'/\sW w' b (Dn L k v)/\Kept [b] w w'/\w'.heap.size=w.heap.size:=by
 have f:=h.lt;have⟨es,clock,ha,hl⟩:=h;have y:(underlying 9).run prog w= .ok .string w:=ql underlying9 _;have r:∀x,(Instr.checkKey x 10000 9 (gH k)).run prog w= .ok () w:=λx=>by
  unfold Instr.checkKey;simp
 have g:=Od k es.toList L 0 hl;cases hq:ZE L k 0 with
 |none=>
  rw[hq]at g;refine⟨setBlock w b (.map (es.push {key:=gH k,val:=v,born:=clock}) (clock+1)),?_,⟨_,_,EK f _,?_⟩,A9 (Kept.refl _ _) (.inl (by simp)) _,?_⟩
  .simp[Instr.mapUpdate,ql q,K8 ha,r,Instr.findKey,y,g,setObj,Sem.run,ha,setBlock,Result.andThen]
  .rw[Qx L k 0 v hq];simp[hl,kvE,kvP]
  .show(w.heap.setIfInBounds b _).size=_;simp
 |some p=>
  have⟨j,u⟩:=p;rw[hq]at g;have⟨n,hj,hn,hkey,hput⟩:=Qy L k 0 j u v hq;have m:j=n:=by omega
  subst m;have s:es.size=L.length:=by have:=sn List.length hl;simpa using this
  have l:(es[j]?).map (·.key)=some (gH k):=by
   have d:(es.toList.map kvE)[j]?=(L.map kvP)[j]?:=by rw[hl]
   rw[List.getElem?_map,List.getElem?_map]at d;rw[Wc]at d;rw[qB hn]at hkey d;rw[xH (by omega)]at d|-;simp[kvE,kvP]at d hkey|-;rw[d.1,hkey]
  refine⟨setBlock w b (.map (es.modify j λe=>{e with key:=gH k,val:=v}) clock),?_,⟨_,_,EK f _,?_⟩,A9 (Kept.refl _ _) (.inl (by simp)) _,?_⟩
  .have A:(Instr.keyThatStays (((es[j]?).map (·.key)).getD (gH k)) (gH k)).run prog w= .ok (gH k) w:=by
    rw[l];have o:(k==k)=true:=by rw[U2];exact xZ.2 rfl
    simp[Instr.keyThatStays,Instr.sameBits,o]
   simp[Instr.mapUpdate,ql q,K8 ha,r,Instr.findKey,y,g,A,setObj,Sem.run,ha,setBlock,Result.andThen]
  .rw[hput];apply List.ext_getElem?;intro i;have d:(es.toList.map kvE)[i]?=(L.map kvP)[i]?:=by rw[hl]
   grind[kvE,kvP]
  .show(w.heap.setIfInBounds b _).size=_;simp
section
variable {P:Program} {ops:Array Oper} {Q:Exit->Act->gx->Prop} {md:Region.Mode}
def zi {I:Array Bool->Act->gx->Prop}
  (m:∀d a w i,I d a w->i∈Region.ready md ops d->wpOp P ops Q i (I (d.setIfInBounds i true)) a w)
  (g:∀d a w,I d a w->Region.ready md ops d=[]->Q .normal a w):
  ∀f d a w,((List.range ops.size).filter (λi=>!d.getD i true)).length<=f->I d a w->wpAny P md ops Q f d a w:=by
 intro f
 induction f with
 |zero=>
  intro d a w R q;have r:(List.range ops.size).filter (λi=>!d.getD i true)=[]:=UM (by omega);have A:Region.ready md ops d=[]:=by
   unfold Region.ready;rw[SM]at r|-;intro i l s;apply r i l;rw[sq]at s;exact s.1
  exact⟨A,g _ _ _ q A⟩
 |succ n ih=>
  intro d a w R q;refine⟨g _ _ _ q,λi l=>wpOp_mono (λD w' H=>ih _ D w' ?_ H) (m _ _ _ i q l)⟩;have o:i∈(List.range ops.size).filter (λi=>!d.getD i true):=by
   unfold Region.ready at l;rw[K9,sq]at l;exact List.mem_filter.2 ⟨l.1,l.2.1⟩
  have y:d.getD i true=false:=by
   have:=(List.mem_filter.1 o).2
   simpa using this
  have N:i < d.size:=by
   apply Decidable.byContradiction;intro h;rw[SO,La (by omega)]at y;simp at y
  have e:(List.range ops.size).filter (λj=>!(d.setIfInBounds i true).getD j true)=((List.range ops.size).filter (λj=>!d.getD j true)).filter (λj=>j != i):=by
   rw[List.filter_filter];refine List.filter_congr λj _=>?_
   by_cases J:j=i
   .simp_all
   .have:i≠j:=λh=>J h.symm
    simp_all
  rw[e];have:(((List.range ops.size).filter (λj=>!d.getD j true)).filter (λj=>j != i)).length < ((List.range ops.size).filter (λj=>!d.getD j true)).length:=by
   rw[List.length_filter_lt_length_iff_exists];exact⟨i,o,by simp⟩
  omega
end
def dn (z:Array Bool) (k:Nat):Bool:=z.getD k true
def cd (z:Array Bool) (k:Nat) (v:gQ):gQ:=cond (dn z k) v undef
def vS (md:Region.Mode) (ops:Array Oper) (i:Nat):List Nat:=
 match ops[i]? with|some o=>(o.after.toList.filter (Region.binds md)).map (·.on)|none=>[]
def sL:dn (z.setIfInBounds k true) k=true:=by
 simp[dn]
def pj (h:k≠j):dn (z.setIfInBounds k true) j=dn z j:=getD_set_ne true h
def qw {p : Prop} (h:dn z j=true->p) (d:k≠j):dn (z.setIfInBounds k true) j=true->p:=by
 rw[pj d];exact h
def lD (h:dn z k=true):cd z k v=v:=by unfold cd;grind
def ad3 (h:dn z k=false):cd z k v=undef:=by unfold cd;grind
def pg:cd (z.setIfInBounds k true) k v=v:=lD sL
def wg (h:k≠j):cd (z.setIfInBounds k true) j v=cd z j v:=by
 unfold cd;rw[pj h]
def ce (z:Array Bool) (k:Nat) (u v:gQ):gQ:=cond (dn z k) v u
def Y6 (h:dn z k=true):ce z k u v=v:=by unfold ce;grind
def U7:ce (z.setIfInBounds k true) k u v=v:=Y6 sL
def ad4 (h:k≠j):ce (z.setIfInBounds k true) j u v=ce z j u v:=by
 unfold ce;rw[pj h]
def yo {n : Nat}:dn (Array.replicate n true) k=true:=by
 unfold dn;rw[SO,Array.getElem?_replicate];grind
def vR {n : Nat}:cd (Array.replicate n true) k v=v:=lD yo
def Y5 {n : Nat}:ce (Array.replicate n true) k u v=v:=Y6 yo
def nC {p : Nat->Prop}:∀k < 0,p k:=λ_ h=>absurd h (Nat.not_lt_zero _)
def nA {p : Nat->Prop} {n : Nat} (t:∀k < n,p k) (h:p n):∀k < n+1,p k:=λk d=>by
 grind
def CZ (z:Array Bool) (i:Nat):List Nat->Prop
 |[]=>dn z i=false
 |j::l=>dn z j=true/\CZ z i l
def UX (h:z.getD i true=false):∀{l:List Nat},(∀j∈l,z.getD j true=true)->CZ z i l
 |[],_=>h
 |j::l,hl=>⟨hl j (yk ..),UX h λk d=>hl k (si _ d)⟩
def zw (md:Region.Mode) (ops:Array Oper):List (List Nat):=(List.range ops.size).map (vS md ops)
def aac:Nat->List (List Nat)->Bool
 |_,[]=>true
 |i,l::ls=>l.all (· < i)&&aac (i+1) ls
def Vr:∀{d:List (List Nat)} {i k:Nat} {l:List Nat},aac i d=true->d[k]?=some l->∀j∈l,j < i+k
 |l'::d,i,0,l,h,hk,j,hj=>by
  simp at hk;subst hk;simp[aac]at h;grind
 |l'::d,i,k+1,l,h,hk,j,hj=>by
  simp[aac]at h;have:=Vr (i:=i+1) (k:=k) h.2 (by grind) j hj;omega
def abZ:List (List Nat)->List (List Nat)->List (List Nat)
 |acc,[]=>acc
 |acc,l::ls=>abZ (acc++[(l++l.flatMap λj=>acc.getD j []).eraseDups]) ls
def Gu:∀(g d:List (List Nat)),(∀k,dn z k=true->∀j∈d.getD k [],dn z j=true)->
  (∀k l,g[k]?=some l->dn z (d.length+k)=true->∀j∈l,dn z j=true)->∀k,dn z k=true->∀j∈(abZ d g).getD k [],dn z j=true
 |[],d,h,_=>h
 |l::g,d,h,hl=>by
  refine Gu g _ ?_ ?_
  .intro k m j f;rw[vK]at f
   by_cases o:k < d.length
   .rw[Nt o]at f;exact h k m j (by grind)
   .by_cases q:k=d.length
    .subst q;simp at f;have n:=hl 0 l rfl m;rcases f with f|⟨i,r,f⟩
     .grind
     .exact h i (n i r) j (by grind)
    grind
  .intro k s m y j f;refine hl (k+1) s (by grind) ?_ j f
   grind
def P5:∀(g d:List (List Nat)),(∀k,∀j∈d.getD k [],j < k)->(∀k l,g[k]?=some l->∀j∈l,j < d.length+k)->∀k,∀j∈(abZ d g).getD k [],j < k
 |[],d,h,_=>h
 |l::g,d,h,hl=>by
  refine P5 g _ ?_ ?_
  .intro k j f;rw[vK]at f
   by_cases q:k < d.length
   .grind
   .by_cases m:k=d.length
    .subst m;simp at f;have o:=hl 0 l rfl;rcases f with f|⟨i,r,f⟩
     .grind
     .have:=h i j (by grind)
      grind
    grind
  .intro k n s j f;have:=hl (k+1) n (by grind) j f
   grind
def okT (n:Nat) (md:Region.Mode) (ops:Array Oper) (d:List (List Nat)):Bool:=
 d.length==ops.size&&n==ops.size&&aac 0 (zw md ops)&&(List.range ops.size).all λi=>(d.getD i []).all λj=>((abZ [] (zw md ops)).getD i []).contains j
section
variable {P:Program} {ops:Array Oper} {Q:Exit->Act->gx->Prop} {md:Region.Mode} {G:Type}
def qj (Z:G->Array Bool->Act) (I:G->Array Bool->gx->Prop) (n:Nat) (q:List (List Nat)) {a:Act} {w:gx} (g:G)
  (D:okT n md ops q=true) (ha:a=Z g (Array.replicate n false)) (h0:I g (Array.replicate n false) w)
  (hs:∀i < n,∀g z W,I g z W->CZ z i (q.getD i [])->(∀j,i∈q.getD j []->dn z j=false)->
   wpOp P ops Q i (λa W'=>∃g,a=Z g (z.setIfInBounds i true)/\I g (z.setIfInBounds i true) W') (Z g z) W)
  (V:∀g W,I g (Array.replicate n true) W->Q .normal (Z g (Array.replicate n true)) W):
  wpAny P md ops Q ops.size (Array.replicate ops.size false) a w:=by
 subst ha;simp only[okT,sq,beq_iff_eq,Nu,Fg]at D;have⟨⟨⟨hnd,hn⟩,hl0⟩,hsub⟩:=D;have J:∀i < ops.size,∀j∈vS md ops i,j < i:=by
  intro i H j d;have:=Vr (i:=0) (k:=i) (l:=vS md ops i) hl0 (by simp[zw,H]) j d;omega
 rw[hn]at h0 hs V|-;have a2:∀i < ops.size,∀j∈q.getD i [],j < i:=by
  intro i H j d;have R:=hsub i H j d;refine P5 (zw md ops) [] (by simp) (λk l m=>?_) i j (by simpa using R);have s:k < ops.size:=by simpa [zw]using (List.getElem?_eq_some_iff.1 m).1
  have:l=vS md ops k:=by simpa [zw,s]using m.symm
  subst this
  simpa using J k s
 have A:∀z:Array Bool,(∀j,dn z j=true->∀k∈vS md ops j,dn z k=true)->∀i < ops.size,dn z i=true->∀j∈q.getD i [],dn z j=true:=by
  intro z N i H V j d;refine Gu (zw md ops) [] (by simp) ?_ i V j (by grind);intro k l m V j d;have s:k < ops.size:=by simpa [zw]using (List.getElem?_eq_some_iff.1 m).1
  have:l=vS md ops k:=by simpa [zw,s]using m.symm
  subst this;exact N k (by simpa using V) j d
 have a0:∀z:Array Bool,z.size=ops.size->∀i,i∈Region.ready md ops z->z.getD i true=false/\i < ops.size/\∀j∈vS md ops i,z.getD j true=true:=by
  intro z N i H;have⟨a,o,ho,r⟩:=mem_ready.1 H;refine⟨a,(Array.getElem?_eq_some_iff.1 ho).1,λj d=>?_⟩;simp only[vS,ho,List.mem_map,K9]at d;obtain⟨e,⟨he,hb⟩,rfl⟩:=d;have R:=r e (by simpa using he) hb;rw[SO]at R|-;cases hx:z[e.on]? with
  |none=>rfl
  |some b=>grind
 refine zi (I:=λz a W=>(z.size=ops.size/\∀j,dn z j=true->∀k∈vS md ops j,dn z k=true)/\∃g,a=Z g z/\I g z W) ?_ ?_ _ _ _ _ ?_ ⟨⟨by simp,λj d k m=>?_⟩,g,rfl,h0⟩
 .rintro z a W i ⟨⟨N,U⟩,g,rfl,hI⟩ H;have⟨a,b,c⟩:=a0 z N i H;have y:∀j,dn (z.setIfInBounds i true) j=true->∀k∈vS md ops j,dn (z.setIfInBounds i true) k=true:=by
   intro j d k m;have:dn z k=true:=by
    by_cases X:i=j
    .subst X;exact c k m
    .rw[pj X]at d;exact U j d k m
   by_cases Y:i=k
   .subst Y;exact sL
   .rw[pj Y];omega
  refine wpOp_mono (λa' W' h=>⟨⟨by simpa using N,λj d k m=>?_⟩,h⟩) (hs i b g z W hI (UX a λj d=>?_) λj d=>?_)
  .exact y j d k m
  .have hl:=a2 i b j d;have:=A _ y i b sL j d
   rwa [pj (by omega)]at this
  .rw[<-Bool.not_eq_true];intro a1
   by_cases f:j < ops.size
   .have:=A z U j f a1 i d;rw[show dn z i=false from a]at this;cases this
   grind
 .rintro z a W ⟨⟨N,_⟩,g,rfl,hI⟩ hr;have r:∀i,∀j≤i,z.getD j true=true:=by
   intro i
   induction i with
   |zero=>?_
   |succ i ih=>?_
   all_goals
    intro j d;rw[<-Bool.not_eq_false];intro hf;have f:j < ops.size:=by
     rw[<-N];apply Decidable.byContradiction;intro h;rw[SO,La (by omega)]at hf;simp at hf
    have:j∈Region.ready md ops z:=by
     refine mem_ready.2 ⟨hf,ops[j],by simp,λe he hb=>?_⟩;have hl:=J j f e.on (by simp only[vS,xH f,List.mem_map,K9];grind)
     first
     |omega
     |grind
    grind
  have a3:z=Array.replicate ops.size true:=by
   apply Array.ext
   .simpa using N
   .intro i R h2;have:=r i i (gW _);rw[SO,xH R]at this
    simpa using this
  grind
 .grind
 .by_cases f:j < ops.size
  .simp[dn,f]at d
  .simp[vS,La (Nat.le_of_not_lt f)]at m
end
inductive Nd
 |el (k:Nat)
 |tx (k:Nat)
 |cm (k:Nat)
 |dt (k:Nat)
def Nd.val:Nd->gQ
 | .el k=> .iface 72 (gN k)
 | .tx k=> .iface 281 (gN k)
 | .cm k=> .iface 237 (gN k)
 | .dt k=> .iface 241 (gN k)
def Nd.one (n:Nd):n.val.oneCell'=true:=by cases n<;>rfl
def Vv (ns:List Nd):∀x∈ns.map Nd.val,x.oneCell'=true:=by
 intro u d;obtain⟨x,_,rfl⟩:=List.mem_map.1 d;exact x.one
structure El (base:Nat) (w:gx) (k:Nat) (name:gz) (av:gQ) (jl:jk) (kv:gQ) (ns:List Nd):Prop where
 iC:w.heap[k]?=some (gL #[gH name,av,kI jl,kv] 140)
 row:w.ownsRow base 142 1 kv ns.length (ns.map Nd.val)
 le:ns.length<=1048576
 U0:∃ao n c,av= .slice ao n c
def El.nO {ns:List Nd} (h:El base w k name av jl kv ns) (l:w.heap[b]?=some (gL c t)) (n:t≠142):kv.ownBlock≠some b:=by
 intro d;rcases h.row.2 with⟨e,_⟩|⟨g,cap,f,e,_,m,_⟩
 .rw[e]at d;cases d
 .rw[e]at d;obtain rfl:=jy d
  grind
def El.kept {ns:List Nd} (h:El base w k name av jl kv ns) (d:Kept S w w') (f:k∉S) (l:∀g,kv.ownBlock=some g->g∉S):El base w' k name av jl kv ns:=
 ⟨d.at h.iC f,d.ownsRow h.row l,h.le,h.U0⟩
abbrev place (k n:Nat):gQ:= .agg #[gN k,gh n]
def aeY (base k:Nat) (name:gz) (av kv:gQ) (jl:jk) (ns:List Nd) (w:gx) (h:El base w k name av jl kv ns):
  Calls prog 99 #[gN k] w λe w'=>e=iw (place k ns.length)/\Kept [] w w':=by
 obtain⟨ao,cap,rfl⟩:=gF h.row;have f:=fW h.iC 3;dsimp at f;have g:=iX h.iC;have d:=(Kept.refl [] w).alloc (gL #[gN k,gh ns.length] 235);go_enter func99,ntmps99;go_wp2;refine oR (v:=place k ns.length) ?_ rfl ⟨rfl,d⟩;simp[results,results99,asAddr,Result.andThen,go_sem]
def IR (base k:Nat) (name:gz) (av kv:gQ) (jl:jk) (ns:List Nd) (w:gx) (h:El base w k name av jl kv ns):
  Calls prog 275 #[gN k] w λe w'=>e=iw (gN w.heap.size)/\El base w' w.heap.size name av none (jc) []/\Kept [] w w':=by
 have n:w.drew.cell? ⟨k,0,none⟩=some (gH name):=by show w.cell? _=_;rw[fW h.iC];rfl
 have o:w.drew.cell? ⟨k,1,none⟩=some av:=by show w.cell? _=_;rw[fW h.iC];rfl
 have f:=(Kept.refl [] w).drew.alloc (gL #[gH name,av,.pointer none,jc] 140);have d:=(show El base (w.drew.alloc (gL #[gH name,av,.pointer none,jc] 140)) w.heap.size name av none (jc) []from⟨fX w.drew _,od _ _ _ _,by simp,h.U0⟩);obtain⟨g,m,l,rfl⟩:=h.U0;go_enter func275,ntmps275
 go_wp21
 go_region;go_wp2;go_ret;exact⟨rfl,d,f⟩
def El.VN {d : gQ} {ns f:List Nd} (h:El base w k name av jl kv ns) (q:w'.heap[k]?=w.heap[k]?) (n:w'.ownsRow base 142 1 d f.length (f.map Nd.val)) (r:f.length<=1048576):El base (w'.setCell ⟨k,3,none⟩ d) k name av jl d f:=by
 have m:=q.trans h.iC;refine⟨gm m 3 d,zk (a:=⟨k,3,none⟩) n ?_ _,r,h.U0⟩;intro l;rcases n.2 with⟨e,_⟩|⟨g,cap,o,e,_,s,_⟩
 .rw[e]at l;cases l
 .rw[e]at l;obtain rfl:=jy l
  grind
def El.aaV {ns:List Nd} (h:El base w k name av jl kv ns) (p:jk):El base (w.setCell ⟨k,2,none⟩ (kI p)) k name av p kv ns:=
 ⟨gm h.iC 2 (kI p),zk (a:=⟨k,2,none⟩) h.row (h.nO h.iC (by decide)) _,h.le,h.U0⟩
def lw {a : Addr} (h:b≠a.block):(w.setCell a u).cell? ⟨b,j,none⟩=w.cell? ⟨b,j,none⟩:=abk (Below.heap_setCell w a u b h)
def VR {X e : TypeId} (d:prog.underlying X=some (.pointer e)) (v:gQ) (f:TypeId) (w:gx):(Instr.typeAssert (.iface X v) f X true).run prog w= .ok (.tuple #[v,.bool true]) w:=by
 simp[Instr.typeAssert,ql d]
def F0 {X e : TypeId} (g:prog.underlying X=some (.pointer e)) (f:(prog.info? X).bind (·.zero)=some (.pointer none)) (d:T≠X) (v:gQ) (h:TypeId) (w:gx):(Instr.typeAssert (.iface T v) h X true).run prog w= .ok (.tuple #[.pointer none,.bool false]) w:=by
 have⟨i,hi,f⟩:=Option.bind_eq_some_iff.1 f;simp[Instr.typeAssert,ql g,d,zeroValue,typeInfo,hi,f]
structure YB (base k:Nat) (name:gz) (av kv:gQ) (jl:jk) (ns:List Nd) (w w':gx):Prop where
 ex:∃kv',El base w' k name av jl kv' ns/\(kv'.ownBlock=kv.ownBlock\/∀g,kv'.ownBlock=some g->w.heap.size<=g)
 kept:Kept (k::kv.ownBlock.toList) w w'
def PG (base k n:Nat) (name:gz) (av:gQ) (jl:jk) (ao:Option Addr) (cap:Nat) (ns:List Nd) (x:Nd) (q:TypeId) (o:gQ) (w w1:gx) (h l m:Bool) (d:gQ) (W:gx):Prop:=
 if m then YB base k name av (.slice ao ns.length cap) jl (ns.take n++[x]++ns.drop n) w W/\W.heap[w.heap.size]?=some (gL #[gN k,gh n] 235)
 else if l then W.ownsRow base 142 1 d (ns.length+1) ((ns.map Nd.val).take n++[.iface q o]++(ns.map Nd.val).drop n)/\Kept (Value.slice ao ns.length cap).ownBlock.toList w1 W/\(d.ownBlock=(Value.slice ao ns.length cap).ownBlock\/∀g,d.ownBlock=some g->w1.heap.size+1<=g)
 else if h then ∃f,Kept [] w1 f/\f.heap.size=w1.heap.size/\W=f.alloc (gL #[.iface q o] 142)
 else Kept [] w1 W/\W.heap.size=w1.heap.size
def PG.iC {n : Nat} {ns:List Nd} {x:Nd} {s : TypeId} {r : gQ} {d f g : Bool} {m : gQ} (h:PG base k n name av jl ao cap ns x s r w w1 d f g m W) (l:w1.heap[w.heap.size]?=some (gL #[gN k,gh n] 235)) (o:w.heap.size∉(Value.slice ao ns.length cap).ownBlock.toList):W.heap[w.heap.size]?=some (gL #[gN k,gh n] 235):=by
 unfold PG at h;split at h
 .exact h.2
 split at h
 .exact h.2.1.at l o
 split at h
 .obtain⟨y,q,_,rfl⟩:=h;exact(q.alloc _).at l (by simp)
 .exact h.1.at l (by simp)
def PG.old {n : Nat} {ns:List Nd} {x:Nd} {m : TypeId} {l : gQ} {d : Bool} {f : gQ} (h:PG base k n name av jl ao cap ns x m l w w1 d false false f W):Kept [] w1 W:=by
 unfold PG at h;simp only[uz,↓reduceIte]at h;split at h
 .obtain⟨o,g,_,rfl⟩:=h;exact g.alloc _
 grind
def ac2 {n : Nat} {ns:List Nd} {v' : gQ} {f d : gx} (o:Kept [] w1 f) (r:f.heap.size=w1.heap.size) (m:W=f.alloc (gL #[u] 142)) (l:d.ownsRow base 142 1 v' (ns.length+1) ((ns.map Nd.val).take n++[u]++(ns.map Nd.val).drop n)) (h:Kept (Value.slice ao ns.length cap).ownBlock.toList W d) (q:v'.ownBlock=(Value.slice ao ns.length cap).ownBlock\/∀k,v'.ownBlock=some k->W.heap.size<=k):
  d.ownsRow base 142 1 v' (ns.length+1) ((ns.map Nd.val).take n++[u]++(ns.map Nd.val).drop n)/\Kept (Value.slice ao ns.length cap).ownBlock.toList w1 d/\(v'.ownBlock=(Value.slice ao ns.length cap).ownBlock\/∀g,v'.ownBlock=some g->w1.heap.size+1<=g):=by
 subst m;refine⟨l,((o.alloc _).mono (by simp)).trans h,?_⟩
 simp_all
def ac1 {n : Nat} {f : Option Addr} {d : Nat} {ns:List Nd} {x:Nd} (h:El base w1 k name av jl (.slice ao ns.length cap) ns) (J:Kept [] w w1) (X:w1.heap.size=w.heap.size+1) (H:w1.heap[w.heap.size]?=some (gL #[gN k,gh n] 235)) (q:k∉(Value.slice ao ns.length cap).ownBlock.toList) (o:w.heap.size∉(Value.slice ao ns.length cap).ownBlock.toList) (U:n<=ns.length) (R:ns.length < 1048576) (m:w.heap.size≠k) (r:x.val=u)
  (V:W.ownsRow base 142 1 (.slice f (ns.length+1) d) (ns.length+1) ((ns.map Nd.val).take n++[u]++(ns.map Nd.val).drop n)) (l:Kept (Value.slice ao ns.length cap).ownBlock.toList w1 W) (N:(Value.slice f (ns.length+1) d).ownBlock=(Value.slice ao ns.length cap).ownBlock\/∀g,(Value.slice f (ns.length+1) d).ownBlock=some g->w1.heap.size+1<=g):
  YB base k name av (.slice ao ns.length cap) jl (ns.take n++[x]++ns.drop n) w (W.setCell ⟨k,3,none⟩ (.slice f (ns.length+1) d))/\(W.setCell ⟨k,3,none⟩ (.slice f (ns.length+1) d)).heap[w.heap.size]?=some (gL #[gN k,gh n] 235):=by
 have s:(ns.take n++[x]++ns.drop n).length=ns.length+1:=by simp;omega
 have A:(ns.take n++[x]++ns.drop n).map Nd.val=(ns.map Nd.val).take n++[u]++(ns.map Nd.val).drop n:=by simp[r]
 have e2:=l.at h.iC q;have D:=l.at H o;refine⟨⟨⟨.slice f (ns.length+1) d,h.VN (e2.trans h.iC.symm) (by grind) (by omega),?_⟩,?_⟩,?_⟩
 .grind
 .exact((J.mono (S':=k::(Value.slice ao ns.length cap).ownBlock.toList) (by simp)).next l (λy I=> .inl (si _ I))).setCell (p:=⟨k,3,none⟩) (.inl (by simp)) _
 .rw[Below.heap_setCell W ⟨k,3,none⟩ _ _ m];exact D
def VA (base k n:Nat) (name:gz) (av kv:gQ) (jl:jk) (ns:List Nd) (x:Nd) (w:gx) (h:El base w k name av jl kv ns) (Y:n<=ns.length) (hl:ns.length < 1048576) (hb:base<=w.heap.size) (Z:gx->Prop)
  (hZ:∀wc,YB base k name av kv jl (ns.take n++[x]++ns.drop n) w wc->match x with
   | .el j=>(∃p,wc.cell? ⟨j,2,none⟩=some p)/\wc.frozen? ⟨j,2,none⟩=false/\Z (wc.setCell ⟨j,2,none⟩ (gN k))
   |_=>Z wc):
  Calls prog 175 #[place k n,x.val] w λe w'=>e=pE/\Z w':=by
 have ad:=iX h.iC;have a0:=h.row.lt;obtain⟨w1,hw1⟩:∃w1,w1=w.alloc (gL #[gN k,gh n] 235):=⟨_,rfl⟩;have k1:Kept [] w w1:=by rw[hw1];exact(Kept.refl _ _).alloc _
 have g1:w1.heap[w.heap.size]?=some (gL #[gN k,gh n] 235):=by rw[hw1];exact fX w _
 have z1:w1.heap.size=w.heap.size+1:=by rw[hw1];simp
 have R:=h.kept k1 (by simp) (by simp);obtain⟨ao,cap,rfl⟩:=gF h.row;have HI:∀W,Kept [] w1 W->W.heap.size=w1.heap.size->Calls prog 266 #[.slice ao ns.length cap,gh n,oe w1.heap.size 1 1] (W.alloc (gL #[x.val] 142)) (Yz 142 base (.slice ao ns.length cap) ns.length n (ns.map Nd.val) x.val (W.alloc (gL #[x.val] 142))):=by
  intro W kW zW;have k2:Kept [] w1 (W.alloc (gL #[x.val] 142)):=kW.alloc _;have g2:=fX W (gL #[x.val] 142);rw[zW]at g2;exact ad9 (.inr ⟨rfl,rfl,rfl,rfl,rfl,rfl⟩) base ns.length n w1.heap.size _ x.val (ns.map Nd.val) _ (k2.ownsRow R.row (λ_ _=>by simp)) g2 (λe=>by grind) x.one (Vv ns) Y h.le (by grind)
 have f:=fV hZ;have H1:=fV R;have o:=fV HI;have a1:=fV k1;have D:=fV g1;have a3:=fV z1;have aa:=fV a0;have I:=fV (show k∉(Value.slice ao ns.length cap).ownBlock.toList by simpa using R.nO R.iC (by decide));have H:=fV (show w.heap.size∉(Value.slice ao ns.length cap).ownBlock.toList by grind);have a8:w.heap.size≠k:=by omega
 have a2:=fV hw1;clear h R HI hZ k1 g1 z1 a0 hw1;obtain⟨y,s,d⟩:∃y s,x.val= .iface y s:=by cases x<;>exact⟨_,_,rfl⟩
 rw[d]at o|-;go_enter func175,ntmps175
 go_wp21
 rw[<-a2.out]
 go_cut []from 6 to 19 (λwc=>YB base k name av (.slice ao ns.length cap) jl (ns.take n++[x]++ns.drop n) w wc/\wc.heap[w.heap.size]?=some (gL #[gN k,gh n] 235))
 case first=>
  refine vL (by rfl) ?_;refine qj (λ(g:gQ) z=>⟨#[place k n,.iface y s,gN w.heap.size,undef,undef,undef,cd z 0 (gN w.heap.size),cd z 1 (gN k),cd z 2 (gN w.heap.size),cd z 3 (gN k),cd z 4 (gN k),cd z 5 (jO k 3),cd z 6 (.slice ao ns.length cap),cd z 7 (jO w.heap.size 1),cd z 8 (gh n),cd z 9 (.iface y s),cd z 10 (oe w1.heap.size 1 1),cd z 11 (g),cd z 12 (gN k),cd z 13 (jO k 3),undef,undef,undef,undef,undef,undef,undef,undef,undef,undef,undef],[]⟩) (λg z W=>PG base k n name av jl ao cap ns x y s w w1 (dn z 10) (dn z 11) (dn z 14) g W) 15 [[],[0],[],[2],[3],[4],[5],[],[7],[],[9],[2,3,4,5,6,7,8,9,10],[1],[12],[0,1,2,3,4,5,6,7,8,9,10,11,12,13]] (undef) rfl (by rfl) (⟨(Kept.refl [] w1).drew,rfl⟩) ?_ ?_
  .repeat' first|exact nC|refine nA ?_ ?_
   all_goals
    rintro g z W A U V;simp[CZ]at U;refine j9 rfl ?_;intro K' m;simp only[lD,U];have gB:=A.iC D H;have ab:W.cell? ⟨w.heap.size,0,none⟩=some (gN k):=by rw[fW gB];rfl
    have ac:W.cell? ⟨w.heap.size,1,none⟩=some (gh n):=by rw[fW gB];rfl
    have q:=A
    try simp only[U]at q
    try rw[V 14 (by decide)]at q
    try rw[V 11 (by decide)]at q
    try (have cK:W.cell? ⟨k,3,none⟩=some (.slice ao ns.length cap):=(by rw[fW (q.old.at H1.out.iC (by simp))];rfl))
    go_simp
    first
    |refine m _ _ ⟨g,?_,(by rw[pj (by decide),pj (by decide),pj (by decide)];exact A)⟩
    |have q:Kept [] w1 W/\W.heap.size=w1.heap.size:=q;refine m _ _ ⟨g,?_,(by rw[sL,pj (by decide),pj (by decide),V 11 (by decide),V 14 (by decide)];grind[PG])⟩;simp[pg,wg,lD,U,q.2]
    |obtain⟨J,q1,q2,hq⟩:∃J,Kept [] w1 J/\J.heap.size=w1.heap.size/\W=J.alloc (gL #[.iface y s] 142):=q;have C:=fV (o J q1 q2);rw[<-hq]at C;refine C.mono ?_;rintro e W2 ⟨v',rfl,a9,a7,a6⟩;refine m _ _ ⟨v',?_,(by rw[sL,pj (by decide),pj (by decide),V 14 (by decide)];exact ac2 q1 q2 hq a9 a7 a6)⟩
    |obtain⟨ho,hk,hf⟩:W.ownsRow base 142 1 g (ns.length+1) ((ns.map Nd.val).take n++[Value.iface y s]++(ns.map Nd.val).drop n)/\Kept (Value.slice ao ns.length cap).ownBlock.toList w1 W/\(g.ownBlock=(Value.slice ao ns.length cap).ownBlock\/∀b,g.ownBlock=some b->w1.heap.size+1<=b):=q;obtain⟨a4,N,rfl⟩:=gF ho;have gK:=hk.at H1.iC I;have cK:W.cell? ⟨k,3,none⟩=some (.slice ao ns.length cap):=(by rw[fW gK];rfl);have zK:=gu gK 3;go_simp;refine m _ _ ⟨.slice a4 (ns.length+1) N,?_,(by rw[sL];exact ac1 H1 a1 a3 D I H Y hl a8 d ho hk hf)⟩
    all_goals simp[pg,wg,lD,U]
  .rintro g W A;rw[yo,yo,yo]at A;simp only[vR];rename_i JJ a5;refine a5 _ _ ?_;go_meet;exact A
 case rest=>
  have⟨hp,hbx⟩:=hcut;have l:=f _ hp;clear hp o H1 f;cases x with
  |el j=>
   have⟨⟨p,c2⟩,fz,l⟩:=l;have f:=fV l;injection d with e1 e2;subst e1 e2;have cb:wc.cell? ⟨w.heap.size,0,none⟩=some (gN k):=by rw[fW hbx];rfl
   have r:=VR (X:=72) underlying72;clear hbx l;go_wp2;go_end0;exact⟨rfl,f⟩
  |tx j=>
   have f:=fV l;injection d with e1 e2;subst e1 e2;have r:=F0 (X:=72) (T:=281) underlying72 rfl (by decide);clear l;go_wp2;go_end0;exact⟨rfl,f⟩
  |cm j=>
   have f:=fV l;injection d with e1 e2;subst e1 e2;have r:=F0 (X:=72) (T:=237) underlying72 rfl (by decide);clear l;go_wp2;go_end0;exact⟨rfl,f⟩
  |dt j=>
   have f:=fV l;injection d with e1 e2;subst e1 e2;have r:=F0 (X:=72) (T:=241) underlying72 rfl (by decide);clear l;go_wp2;go_end0;exact⟨rfl,f⟩
def aaB (base k n:Nat) (name:gz) (av kv:gQ) (jl:jk) (ns:List Nd) (x:Nd) (w:gx) (h:El base w k name av jl kv ns) (g:n<=ns.length) (f:ns.length < 1048576) (d:base<=w.heap.size) (m:∀j,x≠ .el j):
  Calls prog 175 #[place k n,x.val] w λe w'=>e=pE/\YB base k name av kv jl (ns.take n++[x]++ns.drop n) w w':=by
 refine VA base k n name av kv jl ns x w h g f d _ λwc l=>?_
 grind
def Um (base k n j:Nat) (name q:gz) (av kv m f:gQ) (jl l:jk) (ns r:List Nd) (w:gx) (h:El base w k name av jl kv ns) (A:El base w j q m l f r) (D:j≠k) (V:∀g,f.ownBlock=some g->kv.ownBlock≠some g) (hn:n<=ns.length) (Z:ns.length < 1048576) (X:base<=w.heap.size):
  Calls prog 175 #[place k n,(Nd.el j).val] w λe w'=>e=pE/\(∃d,El base w' k name av jl d (ns.take n++[.el j]++ns.drop n)/\(d.ownBlock=kv.ownBlock\/∀g,d.ownBlock=some g->w.heap.size<=g))/\El base w' j q m (some k) f r/\Kept (j::k::kv.ownBlock.toList) w w':=by
 refine VA base k n name av kv jl ns (.el j) w h hn Z X _ λwc J=>?_;have I:∀g,f.ownBlock=some g->g∉k::kv.ownBlock.toList:=by
  intro g Y o;rcases List.mem_cons.1 o with rfl|o
  .exact A.nO h.iC (by decide) Y
  .grind
 have H:j∉k::kv.ownBlock.toList:=by
  intro o;rcases List.mem_cons.1 o with e|o
  .omega
  .exact h.nO A.iC (by decide) (by grind)
 have s:=A.kept J.kept H I;have⟨d,E2,f2⟩:=J.ex;have R:wc.cell? ⟨j,2,none⟩=some (kI l):=by rw[fW s.iC];rfl
 have U:=gu s.iC 2;have N:El base (wc.setCell ⟨j,2,none⟩ (kI (some k))) k name av jl d (ns.take n++[.el j]++ns.drop n):=
  ⟨by rw[Below.heap_setCell wc ⟨j,2,none⟩ _ k (ye D)];exact E2.iC,zk (a:=⟨j,2,none⟩) E2.row (E2.nO s.iC (by decide)) _,E2.le,E2.U0⟩
 exact⟨⟨_,R⟩,U,⟨d,N,f2⟩,s.aaV (some k),(J.kept.mono (S':=j::k::kv.ownBlock.toList) (λy hy _=>si _ hy)).setCell (p:=⟨j,2,none⟩) (.inl (by simp)) (kI (some k))⟩
def ZV:(prog.info? 142).map (λi=>(i.zero,i.size,i.bytes))=some (some (.nilIface),1,16):=by kernel_rfl
def WT {l : List gQ} {n : Nat} (d:i < j) (f:j<=n) (g:n<=l.length):
  ((l.take i++(l.take n).drop j++l.drop (i+(n - j))).take (n - (j - i)))=(l.take n).take i++(l.take n).drop j:=by
 have e:(l.take i++(l.take n).drop j).length=n - (j - i):=by simp;omega
 grind
def ab2 (g cap i j n:Nat) (f:jN) (w:gx) (o:w.heap[g]?=some (gL f 142)) (a4:n<=cap) (X:f.size=cap) (hi:i < j) (hj:j<=n) (a3:n<=1048576)
  (h1:∀u∈f.toList.take n,u.oneCell'=true):
  Calls prog 386 #[oe g n cap,gh i,gh j] w λe w'=>e=iw (oe g (n - (j - i)) cap)/\
   ∃q,w'.heap[g]?=some (gL q 142)/\q.size=cap/\q.toList.take (n - (j - i))=(f.toList.take n).take i++(f.toList.take n).drop j/\Kept [g] w w':=by
 obtain⟨i0,R,a5,Z,a6⟩:=ux ZV;obtain⟨d,m⟩:∃d,d=(f.toList.take n).drop j:=⟨_,rfl⟩;have r:d.length=n - j:=by rw[m];simp;omega
 have I:∀t u,d[t]?=some u->f[j+t]?=some u:=by
  intro t u D;rw[m,V0,Fc]at D;split at D
  .grind
  .cases D
 obtain⟨A,hA,J⟩:∃A:Addr,(if cap=j then some (⟨g,0,none⟩:Addr)else some ⟨g,j,none⟩)=some A/\Hid (∀t u,d[t]?=some u->w.drew.cell? (A.add t)=some u):=by
  by_cases h:cap=j
  .refine⟨⟨g,0,none⟩,by simp[h],λt u D=>?_⟩
   grind
  .refine⟨⟨g,j,none⟩,by simp[h],λt u D=>?_⟩;rw[show(⟨g,j,none⟩:Addr).add t=⟨g,j+t,none⟩from by unfold Addr.add;simp];exact(fW o _).trans (I t u D)
 have s1:Hid (d.length=(n - j)*1):=by rw[Fe];exact r
 have s2:Hid (∀u∈d,u.oneCell'=true):=λu D=>h1 u (K5 (m▸D));have s3:Hid (∀t,t < d.length->(w.drew.cell? ⟨g,0+i*1+t,none⟩).isSome=true/\w.drew.frozen? ⟨g,0+i*1+t,none⟩=false):=by
  intro t Y;rw[r]at Y;refine⟨?_,gu o _⟩;show(w.cell? _).isSome=true;rw[fW o,xH (by omega)];rfl
 obtain⟨y,s⟩:∃y,y=w.drew.setCells g (0+i*1) d:=⟨_,rfl⟩;have H:y.heap[g]?=some (gL (js f (0+i*1) d) 142):=by rw[s];exact kK d w.drew g f _ _ _ o
 have N:Kept [g] w y:=by rw[s];exact Kept.setCells (.inl (by simp)) d _ (Kept.refl _ _).drew
 have a0:∀ty,(Builtin.clear_ #[138] ty #[.slice (some ⟨g,i+(n - j),none⟩) (n - (i+(n - j))) (cap - (i+(n - j)))]).run prog y= .ok (.tuple #[]) (y.setCells g (i+(n - j)) (List.replicate (n - (i+(n - j))) (.nilIface))):=
  λty=>Lib.run_clear_slice y _ _ ty _ underlying138 Tryz.zeroValue142 rfl rfl g (i+(n - j)) _ _ (by omega) (λt Y=>by rw[fW H,xH (by rw[jA];omega)];rfl) (λt Y=>gu H _)
 have HB:=kK (List.replicate (n - (i+(n - j))) (Value.nilIface)) y g _ _ _ (i+(n - j)) H;have HK:=Kept.setCells (S:=[g]) (a:=w) (b:=g) (.inl (by simp)) (List.replicate (n - (i+(n - j))) (Value.nilIface)) (i+(n - j)) N;have U:(js f (0+i*1) d).toList=f.toList.take (0+i*1)++d++f.toList.drop (0+i*1+d.length):=kM _ _ _ (by omega);have V:=kM (List.replicate (n - (i+(n - j))) (Value.nilIface)) (js f (0+i*1) d) (i+(n - j)) (by rw[jA];grind);have HF:(js (js f (0+i*1) d) (i+(n - j)) (List.replicate (n - (i+(n - j))) (Value.nilIface))).toList.take (n - (j - i))=(f.toList.take n).take i++(f.toList.take n).drop j:=by
  rw[V,wm,K7 (by simp[jA];omega),U,r,m];rw[Nr,SI (by omega)];have:=WT (l:=f.toList) hi hj (by grind)
  simpa using this
 have HW:=fV s;have a1:i<=cap:=by omega
 have a2:j<=cap:=by omega
 clear s;go_enter func386,ntmps386
 go_wp21
 go_region_law (refine step_append_room rfl (.tmp 22) (.tmp 25) 138 rfl 142 i0 1 underlying138 R Z g 0 i cap (by simp[Act.eval,Act.put]) A (n - j) (cap - j) d (by simp[Act.eval,Act.put]) s1 J s2 (by omega) s3 ?_;rw[<-HW.out])
 go_wp2;go_ret;exact⟨by rw[show n - (j - i)=i+(n - j) by omega];rfl,_,HB,by rw[jA,jA];exact X,HF,HK⟩
def Nd.iC:Nd->Nat
 | .el k=>k
 | .tx k=>k
 | .cm k=>k
 | .dt k=>k
def Nd.typ:Nd->TypeId
 | .el _=>140
 | .tx _=>284
 | .cm _=>239
 | .dt _=>243
def AN (w:gx) (x:Nd):Prop:=∃c,w.heap[x.iC]?=some (gL c x.typ)
def Nd.hH (j:Nat):Nd->Bool
 | .el k=>k==j
 |_=>false
variable {ns : List Nd}
def ndc:(prog.info? 72).map (λi=>i.comparable)=some true:=by kernel_rfl
def Fy {U : TypeId} (f:T≠U) (w:gx):(binOp .eql 142 (.iface T v) (.iface U u)).run prog w= .ok (.bool false) w:=by
 have h:∀d:Nat,(Op.equalIn (d+1) 142 (.iface T v) (.iface U u)).run prog w= .ok false w:=λd=>by simp[Op.equalIn,ql underlying142,f]
 simp only[binOp];simp[Op.equal,Op.maxDepth,h 9999]
def ae0 {x : Nd} (l:AN w x) (g:AN w (.el j)):
  (binOp .eql 142 x.val (Nd.el j).val).run prog w= .ok (.bool (x.hH j)) w:=by
 obtain⟨i,f,d⟩:=Option.map_eq_some_iff.1 ndc;have⟨q,hq,hqs⟩:=Option.map_eq_some_iff.1 Vb;cases x with
 |el k=>
  by_cases h:k=j
  .subst h;have e:(Nd.el k).hH k=true:=by simp[Nd.hH]
   rw[e];exact run_eql_iface_ptr_same (P:=prog) w (⟨k,0,none⟩:Addr) underlying142 underlying72 f d hq
  .have⟨ca,ha⟩:=l;have⟨cb,hb⟩:=g;have e:(Nd.el k).hH j=false:=by simp[Nd.hH,h]
   rw[e];exact run_eql_iface_ptr_other (P:=prog) w (a:=⟨k,0,none⟩) (b:=⟨j,0,none⟩) underlying142 underlying72 f d hq (by omega) (by simp[h]) ha hb
 |tx k=>exact Fy (by decide) w
 |cm k=>exact Fy (by decide) w
 |dt k=>exact Fy (by decide) w
def F5 (x:Nd):∃T v,x.val= .iface T (.pointer v):=by cases x<;>exact⟨_,_,rfl⟩
def QH (f j:Nat) (x:Nd) (w:gx) (l:w.cell? ⟨f,0,none⟩=some (gN j)) (h:AN w x) (g:AN w (.el j)):
  Calls prog 371 #[x.val,gN f] w λe w'=>e=iw (.bool (x.hH j))/\w'=w:=by
 have d:=ae0 h g;have⟨T,p,hv⟩:=F5 x;rw[hv]at d|-;unfold Nd.val at d;generalize x.hH j=r at d|-;go_enter func371,ntmps371;go_wp2;go_ret;simp
def qH (ns:List Nd) (p:Nd->Bool):Int:=if ns.findIdx p < ns.length then (ns.findIdx p:Int)else -1
def acR {p : Nd->Bool} (f:k < ns.length) (g:p ns[k]=true) (d:∀j,(hj:j < ns.length)->j < k->p ns[j]=false):qH ns p=k:=by
 grind[qH]
def acS {p : Nd->Bool} (d:∀j,(hj:j < ns.length)->p ns[j]=false):qH ns p= -1:=by
 grind[qH]
def acm (kv:gQ) (ns:List Nd) (base o j:Nat) (w:gx) (ho:w.ownsRow base 142 1 kv ns.length (ns.map Nd.val)) (Y:∀x∈ns,AN w x) (U:AN w (.el j)) (R:w.cell? ⟨o,0,none⟩=some (gN j)) (V:ns.length<=1048576):
  Calls prog 370 #[kv,.func (.func 371) #[] #[gN o]] w λe w'=>e=iw (gh (qH ns (Nd.hH j)))/\w'=w:=by
 have H:=(λx hx=>QH o j x w R (Y x hx) U);rcases ho.2 with⟨rfl,N⟩|⟨g,cap,q,rfl,_,l,Z,_,_,h⟩
 .have n:ns=[]:=UM N;subst n;go_enter func370,ntmps370;go_wp2;refine uj 1 ?_;rw[nU];go_wp2;go_ret;simp[qH]
 .have I:∀k,(r:k < ns.length)->w.cell? ⟨g,k,none⟩=some ns[k].val:=by
   intro k r;rw[fW l];have:(q.toList.take (ns.length*1))[k]?=some ns[k].val:=by rw[h];simp[r]
   rw[Fc]at this;split at this
   .grind
   .omega
  go_enter func370,ntmps370;go_wp2
  go_loopw [8] (λi wr=>∃k:Nat,k<=ns.length/\i=gh k/\wr=w/\∀m,(s:m < ns.length)->m < k->(ns[m]).hH j=false) (λi _=>ns.length - (intOf i).toNat)
  case atStart=>grind
  case round=>
   obtain⟨k,r,rfl,rfl,D⟩:=hrel
   by_cases f:k < ns.length
   .have J:=I k f;have d:=H ns[k] (uw f);have⟨T,p,hv⟩:=F5 ns[k];rw[hv]at J d;cases hq:(ns[k]).hH j with
    |true=>
     rw[hq]at d;have y:=fV (acR f hq D)
     go_wp21
     refine d.mono ?_;rintro e w' ⟨rfl,A⟩;subst A;go_wp2;go_ret;exact⟨by rw[y.out];rfl,rfl⟩
    |false=>
     rw[hq]at d;have HQ:=hq
     go_wp21
     refine d.mono ?_;rintro e w' ⟨rfl,A⟩;subst A;go_wp2;go_roundw
     case rel=>
      refine⟨k+1,by omega,by go_num,by simp,λm s X=>?_⟩
      grind
     case measure=>simp[intOf];omega
   .have y:=fV (acS (ns:=ns) (p:=Nd.hH j) (λm s=>D m s (by omega)));go_wp2;go_ret;exact⟨by rw[y.out];rfl,rfl⟩
def JC (base k j:Nat) (name:gz) (av kv:gQ) (jl:jk) (ns:List Nd) (w:gx) (h:El base w k name av jl kv ns) (o:∀x∈ns,AN w x) (m:AN w (.el j)):
  Calls prog 348 #[gN k,gN j] w λe w'=>e=iw (gh (qH ns (Nd.hH j)))/\Kept [] w w':=by
 have d:Kept [] w (w.alloc (gL #[gN j] 72)):=(Kept.refl _ _).alloc _;have s:=fX w (gL #[gN j] 72);have f:∀x,AN w x->AN (w.alloc (gL #[gN j] 72)) x:=λx ⟨c,l⟩=>⟨c,d.at l (by simp)⟩;have H:=acm kv ns base w.heap.size j _ (d.ownsRow h.row (λ_ _=>by simp)) (λx r=>f x (o x r)) (f _ m) (by simp) h.le;have g:=fW h.iC 3;dsimp at g;have n:=iX h.iC;obtain⟨ao,cap,rfl⟩:=gF h.row;generalize qH ns (Nd.hH j)=q at H|-;go_enter func348,ntmps348
 go_wp21
 refine H.mono ?_;rintro e w' ⟨rfl,rfl⟩;go_wp2;go_ret
 simp_all
def JL (h:El base w k name av jl kv ns) {m : Nat} (n:m < ns.length):∃g cap,kv=oe g ns.length cap/\w.cell? ⟨g,m,none⟩=some ns[m].val:=by
 rcases h.row.2 with⟨_,q⟩|⟨g,cap,l,rfl,_,f,o,_,_,d⟩
 .omega
 .refine⟨g,cap,rfl,?_⟩;rw[fW f];have:(l.toList.take (ns.length*1))[m]?=some ns[m].val:=by rw[d];simp[n]
  grind
def LW (base k m l:Nat) (name d s:gz) (av kv:gQ) (jl:jk) (ns:List Nd) (w:gx) (h:El base w k name av jl kv ns) (N:m < ns.length) (U:ns[m]= .tx l) (R:w.heap[l]?=some (gL #[gH d] 284)) (a4:d.size+s.size<=1048576):
  Calls prog 182 #[place k (m+1),gH s] w λe w'=>e=pE/\w'.heap[l]?=some (gL #[gH (d++s)] 284)/\Kept [l] w w':=by
 obtain⟨g,cap,rfl,V⟩:=JL h N;rw[U]at V;have a1:=iX h.iC;have a6:=iX R;have a2:=h.le;obtain⟨w1,f⟩:∃w1,w1=w.alloc (gL #[gN k,gh ((m+1:Nat))] 235):=⟨_,rfl⟩;have n:Kept [] w w1:=by rw[f];exact(Kept.refl _ _).alloc _
 have H:w1.heap[w.heap.size]?=some (gL #[gN k,gh ((m+1:Nat))] 235):=by rw[f];exact fX w _
 have I:=h.kept n (by simp) (by simp);have o:=n.at R (by simp);have r:=fW H 0;have y:=fW H 1;have A:=fW I.iC 3;dsimp at r y A;have Y:w1.cell? ⟨g,m,none⟩=some (Nd.tx l).val:=by
  have⟨g',cap',e,c⟩:=JL I N;injection e with e1;injection e1 with e2;injection e2 with e3;rw[e3,c,U]
 unfold Nd.val at Y;have D:=fW o 0;have fT:=gu o 0;dsimp at D;have a5:=VR (X:=281) underlying281;have q:=fV f;have a3:(m:Int) < ns.length:=by omega
 clear f;go_enter func182,ntmps182
 go_wp21
 rw[show((m+1:Nat):Int)=(m:Int)+1 by omega]at q;rw[<-q.out]
 go_quiet (fail)
 have Z:(w1.drewN nq).cell? ⟨l,0,none⟩=some (gH d):=D;have a0:(w1.drewN nq).frozen? ⟨l,0,none⟩=false:=fT;have J:=run_string_add_sum (P:=prog) (w1.drewN nq) d s (by omega);have HB:=gm (w:=w1.drewN nq) o 0 (gH (d++s));have HK:=((n.mono (S':=[l]) (by simp)).drewN nq).setCell (p:=⟨l,0,none⟩) (.inl (by simp)) (gH (d++s));go_wp2;refine oR (Hl rfl _ _ _) rfl ?_
 grind
def OQ (base k n:Nat) (name s:gz) (av kv:gQ) (jl:jk) (ns:List Nd) (w:gx) (h:El base w k name av jl kv ns) (hn:n<=ns.length) (Q:gx->Prop) (f:∀w1,Kept [] w w1->Calls prog 175 #[place k n,(Nd.tx w1.heap.size).val] (w1.alloc (gL #[gH s] 284)) λe w'=>e=pE/\Q w') (hx:∀m,(H:m < ns.length)->n=m+1->∀t,ns[m]≠ .tx t):
  Calls prog 182 #[place k n,gH s] w λe w'=>e=pE/\Q w':=by
 have a1:=iX h.iC;have a2:=h.le;obtain⟨w1,d⟩:∃w1,w1=w.alloc (gL #[gN k,gh n] 235):=⟨_,rfl⟩;have J:Kept [] w w1:=by rw[d];exact(Kept.refl _ _).alloc _
 have R:w1.heap[w.heap.size]?=some (gL #[gN k,gh n] 235):=by rw[d];exact fX w _
 have U:=h.kept J (by simp) (by simp);have A:=fW R 0;have o:=fW R 1;dsimp at A o;have l:=fV d;have r:w1.heap.size=w.heap.size+1:=by rw[d];simp
 by_cases h0:n=0
 .subst h0;have V:=f w1 J;rw[r,d]at V;have y:=(show Calls prog 175 #[.agg #[gN k,gh 0],.iface 281 (gN (w.heap.size+1))] ((w.alloc (gL #[gN k,gh 0] 235)).alloc (gL #[gH s] 284)) (λe w'=>e=pE/\Q w')from V);clear d r;go_enter func182,ntmps182
  go_wp21
  refine y.mono ?_;rintro e w' ⟨rfl,HR⟩;go_wp2;go_end0
  grind
 .obtain⟨m,rfl⟩:∃m,n=m+1:=⟨n - 1,by omega⟩;have H:m < ns.length:=by omega
  have a4:=hx m H rfl;have⟨g,cap,hkv,c4⟩:=JL U H;subst hkv;have D:=fW U.iC 3;dsimp at D;have I:∀(Z:TypeId) (w:gx),(Instr.typeAssert ns[m].val Z 281 true).run prog w= .ok (.tuple #[.pointer none,.bool false]) w:=by
   intro Z w;cases hq:ns[m]with
   |tx t=>grind
   |el t=>exact F0 (X:=281) underlying281 rfl (by decide) _ _ _
   |cm t=>exact F0 (X:=281) underlying281 rfl (by decide) _ _ _
   |dt t=>exact F0 (X:=281) underlying281 rfl (by decide) _ _ _
  have y:∀q,Calls prog 175 #[.agg #[gN k,gh ((m:Int)+1)],.iface 281 (gN w1.heap.size)] ((w1.drewN q).alloc (gL #[gH s] 284)) (λe w'=>e=pE/\Q w'):=
   λq=>f (w1.drewN q) (J.drewN q)
  have⟨xt,xp,hxv⟩:=F5 ns[m];rw[hxv]at c4 I;have a3:(m:Int) < ns.length:=by omega
  have N:w1.cell? ⟨w.heap.size,1,none⟩=some (gh ((m:Int)+1)):=o;have Y:w.heap.size < w1.heap.size:=by omega
  rw[show((m+1:Nat):Int)=(m:Int)+1 by omega]at l;have a0:=fV r;clear d r;go_enter func182,ntmps182
  go_wp21
  rw[<-l.out]
  go_quiet (fail)
  go_wp21
  refine(y nq).mono ?_;rintro e w' ⟨rfl,HR⟩;go_wp2;go_end0
  grind
def AN.kept {x : Nd} (h:AN w x) (d:Kept [] w w'):AN w' x:=by
 have⟨c,hc⟩:=h;exact⟨c,d.at hc (by simp)⟩
def El.Xq (h:El base w k name av jl kv ns):AN w (.el k):=⟨_,h.iC⟩
def NL (w:gx) (o:Obj):∃W,W=w.alloc o/\Kept [] w W/\W.heap[w.heap.size]?=some o/\W.heap.size=w.heap.size+1:=⟨_,rfl,(Kept.refl _ _).alloc _,fX w _,by simp⟩
def ZH (base j:Nat) (name:gz) (av kv:gQ) (ns:List Nd) (w:gx) (h:El base w j name av none kv ns):
  Calls prog 321 #[gN j] w λe w'=>e=iw (.tuple #[.agg #[.pointer none,gh 0],.bool false])/\Kept [] w w':=by
 have g:w.cell? ⟨j,2,none⟩=some (.pointer none):=(fW h.iC 2).trans rfl;have f:=iX h.iC;have d:=(Kept.refl [] w).alloc (gL #[.pointer none,gh 0] 235);go_enter func321,ntmps321;go_wp2;refine oR (v:= .tuple #[.agg #[.pointer none,gh 0],.bool false]) ?_ rfl ⟨rfl,d⟩;simp[results,results321,asAddr,Result.andThen,go_sem]
def Xh (base j p:Nat) (name r:gz) (av kv n o:gQ) (f:jk) (ns d:List Nd) (w:gx) (h:El base w j name av (some p) kv ns) (Z:El base w p r n f o d) (Y:∀x∈d,AN w x):
  Calls prog 321 #[gN j] w λe w'=>e=iw (.tuple #[.agg #[gN p,gh (qH d (Nd.hH j))],.bool true])/\Kept [] w w':=by
 have⟨w1,hw1,HK1,HG1,z1⟩:=NL w (gL #[.pointer none,gh 0] 235);have c2:w1.cell? ⟨j,2,none⟩=some (gN p):=(fW (HK1.at h.iC (by simp)) 2).trans rfl;have X:=iX h.iC;have l:j≠w.heap.size:=by omega
 have J:=(λ(W:gx) (I:Kept [] w W)=>JC base p j r n o f d W (Z.kept I (by simp) (λ_ _=>by simp)) (λx hx=>(Y x hx).kept I) (h.Xq.kept I));have R:w.cell? ⟨j,2,none⟩=some (gN p):=(fW h.iC 2).trans rfl;have D:=fV hw1;have N:=h.iC;clear hw1;generalize qH d (Nd.hH j)=q at J|-;go_enter func321,ntmps321
 go_wp21
 rw[<-D.out]
 go_region_held3 (λw'=>w'.cell? ⟨j,2,none⟩=some (gN p)) ((first|assumption|go_keep|exact(lw l).trans (by assumption)|exact(lw l).trans ((lw l).trans (by omega)))) ((go_at_call 348;refine(J _ HK1.drew).mono ?_;rintro e s ⟨rfl,g⟩;have H:Kept [] w s:=HK1.drew.trans g;have d2:s.cell? ⟨j,2,none⟩=some (gN p):=(fW (H.at N (by simp)) 2).trans rfl;have m:s.heap[w.heap.size]?=some (gL #[.pointer none,gh 0] 235):=((Kept.refl [] w1).drew.trans g).at HG1 (by simp);have e0:s.cell? ⟨w.heap.size,0,none⟩=some (.pointer none):=(fW m 0).trans rfl;have e1:s.cell? ⟨w.heap.size,1,none⟩=some (gh 0):=(fW m 1).trans rfl;have y0:=gu m 0;have y1:=gu m 1;have y:=fV m;have A:=fV H;clear m H g))
 all_goals (try (go_wp21))
 have U:=gm (gm y 0 (gN p)) 1 (gh q);have V:=fW U;refine oR (v:= .tuple #[.agg #[gN p,gh q],.bool true]) ?_ rfl ⟨rfl,(A.setCell (p:=⟨w.heap.size,0,none⟩) (.inr (gW _)) _).setCell (p:=⟨w.heap.size,1,none⟩) (.inr (gW _)) _⟩;simp[results,results321,asAddr,Result.andThen,go_sem,V]
def UF (base j:Nat) (name:gz) (av kv:gQ) (ns:List Nd) (w:gx) (h:El base w j name av none kv ns):
  Calls prog 374 #[gN j] w λe w'=>e=pE/\w'=w:=by
 have d:w.cell? ⟨j,2,none⟩=some (.pointer none):=(fW h.iC 2).trans rfl;go_enter func374,ntmps374;go_wp2;go_end0;simp
def ac4 {g : Nat} {f d : jN} (m:i < ns.length) (h:base<=g) (l:w'.heap[g]?=some (gL d 142)) (A:d.size=cap) (y:ns.length<=cap) (o:cap<=maxLen) (q:f.toList.take ns.length=ns.map Nd.val) (r:d.toList.take (ns.length - 1)=(f.toList.take ns.length).take i++(f.toList.take ns.length).drop (i+1)):
  w'.ownsRow base 142 1 (oe g (ns.length - 1) cap) (ns.eraseIdx i).length ((ns.eraseIdx i).map Nd.val):=by
 have n:(ns.eraseIdx i).length=ns.length - 1:=by rw[abn m]
 have s:(ns.eraseIdx i).map Nd.val=(f.toList.take ns.length).take i++(f.toList.take ns.length).drop (i+1):=by
  rw[q,List.eraseIdx_eq_take_drop_succ,sj,List.map_take,List.map_drop]
 refine⟨by simp,.inr ⟨g,cap,d,by rw[n],h,l,by omega,o,by omega,?_⟩⟩
 grind
def UU (base p i g cap:Nat) (r:gz) (n:gQ) (m:jk) (f:List Nd) (l:jN) (w:gx) (o q:Bool) (W:gx):Prop:=
 if q then (∃h,El base W p r n m h (f.eraseIdx i)/\h.ownBlock=some g)/\Kept [p,g] w W else if o then Kept [g] w W/\∃d,W.heap[g]?=some (gL d 142)/\d.size=cap/\d.toList.take (f.length - 1)=(l.toList.take f.length).take i++(l.toList.take f.length).drop (i+1)else Kept [] w W
def UU.any {p g : Nat} {o : gz} {f : gQ} {d : jk} {q : List Nd} {n : jN} {l m : Bool} (h:UU base p i g cap o f d q n w l m W):Kept [p,g] w W:=by
 unfold UU at h;split at h
 .exact h.2
 split at h
 .exact h.1.mono (by simp)
 .exact h.mono (by simp)
def Hh (base j p i:Nat) (name I:gz) (av kv y s:gQ) (o:jk) (ns d:List Nd) (w:gx) (h:El base w j name av (some p) kv ns) (D:El base w p I y o s d) (hn:∀x∈d,AN w x) (a8:j≠p) (a4:∀g,kv.ownBlock=some g->s.ownBlock≠some g) (hi:i < d.length) (N:qH d (Nd.hH j)=(i:Int)):
  Calls prog 374 #[gN j] w λe w'=>e=pE/\(∃n,El base w' p I y o n (d.eraseIdx i)/\n.ownBlock=s.ownBlock)/\El base w' j name av none kv ns/\Kept (j::p::s.ownBlock.toList) w w':=by
 obtain⟨g,cap,f,rfl,a5,m,r,a9,aa,a0⟩:∃g cap f,s=oe g d.length cap/\base<=g/\w.heap[g]?=some (gL f 142)/\d.length<=cap/\cap<=maxLen/\f.size=cap/\f.toList.take d.length=d.map Nd.val:=by
  rcases D.row.2 with⟨_,e0⟩|⟨g,cap,f,e,hb,m,r,hm,hs,ht⟩
  .omega
  .exact⟨g,cap,f,e,hb,m,r,hm,by omega,by grind⟩
 have CI:=fV (JC base p j I y _ o d w D hn h.Xq);rw[N]at CI;have a7:g≠p:=by have:=D.nO D.iC (by decide);simpa [Value.ownBlock]using this
 have a6:g≠j:=by have:=D.nO h.iC (by decide);simpa [Value.ownBlock]using this
 have c2:w.cell? ⟨j,2,none⟩=some (gN p):=(fW h.iC 2).trans rfl;have CD:Hid (∀(W:gx),Kept [] w W->Calls prog 386 #[oe g d.length cap,gh i,gh ((i:Int)+1)] W λe w'=>e=iw (oe g (d.length - 1) cap)/\
   ∃l,w'.heap[g]?=some (gL l 142)/\l.size=cap/\l.toList.take (d.length - 1)=(f.toList.take d.length).take i++(f.toList.take d.length).drop (i+1)/\Kept [g] W w'):=fV (λW hk=>by
  rw[show((i:Int)+1)=((i+1:Nat):Int) by omega];have al:=ab2 g cap i (i+1) d.length f W (hk.at m (by simp)) r aa (by omega) (by omega) D.le (by rw[a0];exact Vv d)
  rwa [show i+1 - i=1 by omega]at al)
 have ap:(0:Int)<=(i:Int):=by omega
 have an:(i:Int) < 1048576:=by have:=D.le;omega
 have H:=fV h;have V:=fV D;have ab:=fV a4;have aj:=fV r;have ai:=fV a9;have ak:=fV a0;have HI:=fV hi;have ac:=fV a5;have U:=fV a8;have ae:=fV a7;have R:=fV a6;clear h D hn a4 r a9 a0 hi a5 a8 a7 a6 m aa N;go_enter func374,ntmps374
 go_wp21
 refine CI.out.mono ?_;rintro e w1 ⟨rfl,A⟩;have ag:=fV A;have d2:w1.cell? ⟨j,2,none⟩=some (gN p):=(fW (A.at H.out.iC (by simp)) 2).trans rfl;have d3:w1.cell? ⟨p,3,none⟩=some (oe g d.length cap):=(fW (A.at V.out.iC (by simp)) 3).trans rfl;clear A c2
 go_wp21
 refine vL (by rfl) ?_;refine qj (λ(u:Unit) z=>⟨#[gN j,undef,gh i,gN j,gN j,jO j 2,gN p,.bool true,gN j,gN j,jO j 2,gN p,gN j,gh i,cd z 0 (gN j),cd z 1 (gN j),cd z 2 (jO j 2),cd z 3 (gN p),cd z 4 (gN j),cd z 5 (gN j),cd z 6 (jO j 2),cd z 7 (gN p),cd z 8 (gN p),cd z 9 (jO p 3),cd z 10 (oe g d.length cap),cd z 11 (gh i),cd z 12 (gh i),cd z 13 (gh ((i:Int)+1)),cd z 14 (oe g (d.length - 1) cap),cd z 15 (gN p),cd z 16 (jO p 3),undef,undef,undef],[]⟩) (λu z W=>UU base p i g cap I y o d f w (dn z 14) (dn z 17) W) 18 [[],[0],[1],[2],[],[4],[5],[6],[7],[8],[9],[],[],[12],[4,5,6,7,8,9,10,11,12,13],[3],[15],[0,1,2,3,4,5,6,7,8,9,10,11,12,13,14,15,16]] (()) rfl rfl (ag.out.drew) ?_ ?_
 .repeat' first|exact nC|refine nA ?_ ?_
  all_goals
   rintro u z W hI hc hn;simp[CZ]at hc;refine j9 rfl ?_;intro K' X;simp only[lD,hc];have c0:W.cell? ⟨j,2,none⟩=some (gN p):=(fW (hI.any.at H.out.iC (by have:=R.out;have:=U.out;simp;omega)) 2).trans rfl;have q:=hI
   try simp only[hc]at q
   try rw[hn 17 (by decide)]at q
   try rw[hn 14 (by decide)]at q
   try (have q:Kept [] w W:=q;have c3:W.cell? ⟨p,3,none⟩=some (oe g d.length cap):=(fW (q.at V.out.iC (by simp)) 3).trans rfl)
   go_simp
   try rw[show IntKind.i64.wrap ((i:Int)+1)=(i:Int)+1 by rw[IntKind.wrap_i64];omega]
   first
   |refine X _ _ ⟨u,?_,(by rw[pj (by decide),pj (by decide)];exact hI)⟩
   |refine(CD.out W q).mono ?_;rintro e w2 ⟨rfl,l,Y,a1,Z,am⟩;refine X _ _ ⟨u,?_,(by rw[sL,pj (by decide),hn 17 (by decide)];exact⟨(Kept.mono q (by simp)).trans am,l,Y,a1,Z⟩)⟩
   |have⟨q,l,Y,a1,Z⟩:=q;have g2:=q.at V.out.iC (by have:=ae.out;simp;omega);have c3:W.cell? ⟨p,3,none⟩=some (oe g d.length cap):=(fW g2 3).trans rfl;have y3:=gu g2 3;go_simp;refine X _ _ ⟨u,?_,(by rw[sL];exact⟨⟨_,V.out.VN (g2.trans V.out.iC.symm) (ac4 HI.out ac.out Y a1 aj.out ai.out ak.out Z) (by rw[abn HI.out];have:=V.out.le;omega),rfl⟩,(Kept.mono q (by simp)).setCell (p:=⟨p,3,none⟩) (.inl (by simp)) _⟩)⟩
   simp[pg,wg,lD,hc]
 .rintro u W hI;rw[yo,yo]at hI;simp only[vR];have⟨⟨n,hE,ho⟩,hk⟩:=hI;have J:=H.out.kept hk (by have:=R.out;have:=U.out;simp;omega) (λx hx=>by
   have h1:=ab.out x hx;have h2:=H.out.nO V.out.iC (by decide);rw[hx]at h2;simp[Value.ownBlock]at h1 h2;simp;omega)
  have ad:=fV hE;have a2:=fV ho;have ah:=fV hk;have af:=fV (J.aaV none);have j2:W.cell? ⟨j,2,none⟩=some (gN p):=(fW J.iC 2).trans rfl;have z2:=gu J.iC 2;clear hE ho hk J;rename_i KK a3;refine a3 _ _ ?_;clear a3 KK;go_wp2;go_end0;refine⟨rfl,⟨n,ad.out.kept ((Kept.refl [j] W).setCell (p:=⟨j,2,none⟩) (.inl (by simp)) _) (by have:=U.out;simp;omega) (λx hx=>?_),a2.out⟩,af.out,?_⟩
  .rw[a2.out]at hx;have e:=jy hx;have:=R.out;simp;omega
  .refine(ah.out.mono (S':=j::p::[g]) ?_).setCell (p:=⟨j,2,none⟩) (.inl (by simp)) _;simp
structure Ak where
 name:gz
 ib:lZ
 jl:jk
 kids:List Nd
inductive Cf
 |el (e:Ak)
 |tx (s:gz)
 |cm (s:gz)
 |dt (s:gz)
structure Ab where
 nodes:List Cf
 gG:kV
 act:kV
 head:jk
 form:jk
 mode:Nat
 kept:Nat
 waiting:List (Nat×Nat×gz)
 iT:Bool
 jV:Bool
 gS:Nat
 behind:Bool
 nJ:gz
 iY:Bool
 fresh:Bool
 qv:Nat
 rZ:Nat
 pG:Nat
inductive qI (α:Type)
 |ok (a:α) (σ:Ab)
 |stop (e:Nat) (gS:Nat)
 |stuck
def M (α:Type):=Ab->qI α
namespace M
def pure {α:Type} (a:α):M α:=λσ=> .ok a σ
def bind {α d:Type} (m:M α) (f:α->M d):M d:=λσ=>match m σ with
 | .ok a σ'=>f a σ'
 | .stop e p=> .stop e p
 | .stuck=> .stuck
instance :Monad M where
 pure:=M.pure
 bind:=M.bind
end M
def M.gE {α d:Type} (m:M α) (f:α->M d) (σ:Ab):(m>>=f) σ=match m σ with
 | .ok a σ'=>f a σ'
 | .stop e p=> .stop e p
 | .stuck=> .stuck:=rfl
def stuck {α:Type}:M α:=λ_=> .stuck
def xA (f:Ab->Ab):M Unit:=λσ=> .ok () (f σ)
def Ab.ij (σ:Ab) (i:Nat):Option Ak:=match σ.nodes[i]? with
 |some (.el e)=>some e
 |_=>none
def Ab.hH (σ:Ab) (x:jk):Bool:=match x with
 |none=>true
 |some i=>(σ.ij i).isSome
def Ab.mw (σ:Ab) (x:jk):Bool:=match x with
 |none=>false
 |some i=>(σ.ij i).isSome
def Ab.wC {σ:Ab} (h:σ.mw x=true):σ.hH x=true:=by
 cases x with
 |none=>rfl
 |some i=>exact h
def Ab.jo (σ:Ab):Nd->Bool
 | .el i=>(σ.ij i).isSome
 | .tx i=>match σ.nodes[i]? with|some (.tx _)=>true|_=>false
 | .cm i=>match σ.nodes[i]? with|some (.cm _)=>true|_=>false
 | .dt i=>match σ.nodes[i]? with|some (.dt _)=>true|_=>false
def Ab.ig (σ:Ab) (i:Nat) (e:Ak):Ab:={σ with nodes:=σ.nodes.set i (.el e)}
def Ab.add (σ:Ab) (n:Cf):Ab:={σ with nodes:=σ.nodes++[n]}
def Ab.pN (σ:Ab) (n:Cf) (d:Bool):Ab:={σ with nodes:=σ.nodes++[n],fresh:=d}
variable {σ : Ab}
def aeo:gz:=fY
def aen:gz:=gI
def nM (s:gz):Bool:=la s aeo||la s aen
structure Wf (σ:Ab):Prop where
 gG:∀x∈σ.gG,σ.mw x=true
 act:∀x∈σ.act,σ.hH x=true
 head:σ.hH σ.head=true
 form:σ.hH σ.form=true
 jl:∀i e,σ.ij i=some e->σ.hH e.jl=true
 kids:∀i e,σ.ij i=some e->∀k∈e.kids,σ.jo k=true
 xX:(σ.ij 0).isSome=true
def Ab.iq {e : Ak} (h:σ.ij i=some e):i < σ.nodes.length:=by
 unfold Ab.ij at h
 grind
def Ab.jr {e : Ak} (h:σ.ij i=some e):σ.nodes[i]?=some (.el e):=by
 unfold Ab.ij at h
 grind
def Ab.Ts {e : Ak} (h:σ.nodes[i]?=some (.el e)):σ.ij i=some e:=by
 grind[Ab.ij]
def words (s:gz):List gz:=(Lib.fields s.data.toList).map λl=>⟨l.toArray⟩
def zQ (L:List (gz×gQ)) (ks:List gz) (v:gQ):List (gz×gQ):=ks.foldl (λL k=>Dn L k v) L
def Rr (L:List (gz×gQ)) (ks:List gz) (v:gQ) (n:Nat) (d:n < ks.length):zQ L (ks.take (n+1)) v=Dn (zQ L (ks.take n) v) ks[n] v:=by
 unfold zQ;rw[abj d,List.foldl_append];rfl
abbrev sr (w:gx):Prop:=Lib.TabIs prog w "strings.asciiSpace" .u8 Lib.asciiSpaceTab
def qq (s:gz):Bool:=decide (s.size < 4096)&&s.data.toList.all (λb=>decide (b.toNat < 128))&&decide ((words s).length<=4096)
def MF (s:gz) (w:gx) (d:qq s=true) (g:sr w):
  Calls prog 96 #[gH s] w λe w'=>e=iw (oe w.heap.size (words s).length (words s).length)/\w'=w.alloc (gL ((words s).map Value.string).toArray 9):=by
 unfold qq at d;simp only[sq,BG,Nu]at d;have h:=Tryz.strings_Fields s w (by omega) (λj b f=>d.1.2 b (uy f)) g;refine h.mono ?_;rintro e w' ⟨rfl,rfl⟩;have e1:(words s).length=(Lib.fields s.data.toList).length:=by simp[words]
 refine⟨by rw[e1],?_⟩
 congr 2
 simp[words]
def agw (b:Nat) (s:gz) (v:gQ) (L:List (gz×gQ)) (w:gx) (o:qq s=true) (N:sr w) (J:sW w b L):
  Calls prog 102 #[.map (some b),gH s,v] w λe w'=>e=iw (.map (some b))/\sW w' b (zQ L (words s) v)/\Kept [b] w w':=by
 have m:(words s).length<=4096:=by
  unfold qq at o;simp only[sq,BG]at o;exact o.2
 have D:=MF s w o N;have I:=J;clear o N J;generalize words s=d at D m|-;go_enter func102,ntmps102
 go_wp21
 refine D.mono ?_;rintro e w1 ⟨rfl,h⟩;have U:w1.heap[w.heap.size]?=some (gL (d.map Value.string).toArray 9):=by rw[h];exact fX w _
 have H:Kept [] w w1:=by rw[h];exact(Kept.refl _ _).alloc _
 have y:=I.kept H (by simp);have R:b≠w.heap.size:=by have:=I.lt;omega
 clear h;go_wp2
 go_loopw [12] (λi wr=>∃k:Nat,k<=d.length/\i=gh k/\sW wr b (zQ L (d.take k) v)/\Kept [b] w wr/\wr.heap[w.heap.size]?=some (gL (d.map Value.string).toArray 9)) (λi _=>d.length - (intOf i).toNat)
 case atStart=>exact⟨0,iN _,rfl,y,H.mono (by simp),U⟩
 case round=>
  obtain⟨k,Y,rfl,g,l,f⟩:=hrel
  by_cases n:k < d.length
  .have X:wr.cell? ⟨w.heap.size,k,none⟩=some (gH d[k]):=by rw[fW f];simp[n]
   have⟨w2,r2,HM2,k2,z2⟩:=RX (T:=170) (E:=168) (by simp) g d[k] v;have r:=l.trans k2;have q:=k2.at f (by grind);have HS:=fV (Rr L d v k n);clear g l f k2 z2;go_wp2;go_roundw
   case rel=>exact⟨k+1,by omega,by go_num,by rw[HS.out];exact HM2,r,q⟩
   case measure=>simp[intOf];omega
  .have A:k=d.length:=by omega
   have V:=(show sW wr b (zQ L d v) by grind);clear g f A;go_wp2;go_ret
   simp_all
def AZ (L:List (gz×Nat)):List (gz×gQ):=L.map λp=>(p.1,gh p.2)
def xN:List (gz×Nat)->gz->Nat
 |[],_=>0
 |p::L,k=>if la k p.1 then p.2 else xN L k
def Rw:List (gz×Nat)->gz->Nat->List (gz×Nat)
 |[],k,v=>[(k,v)]
 |p::L,k,v=>if la k p.1 then (k,v)::L else p::Rw L k v
def Ju:∀(L:List (gz×Nat)) (k:gz),(AF (AZ L) k).getD (gh 0)=gh (xN L k)
 |[],_=>rfl
 |p::L,k=>by
  show(if la k p.1 then some (Value.int .i64 (p.2:Int))else AF (AZ L) k).getD _=_;unfold xN;split
  .rfl
  .exact Ju L k
def Rx:∀(L:List (gz×Nat)) (k:gz) (v:Nat),Dn (AZ L) k (gh v)=AZ (Rw L k v)
 |[],_,_=>rfl
 |p::L,k,v=>by
  show(if la k p.1 then (k,Value.int .i64 (v:Int))::AZ L else (p.1,Value.int .i64 (p.2:Int))::Dn (AZ L) k _)=_;unfold Rw;split
  .rfl
  .rw[Rx L k v];rfl
def MJ:∀(L:List (gz×Nat)) (k:gz) (v:Nat) (s:gz),xN (Rw L k v) s=if la s k then v else xN L s
 |[],k,v,s=>rfl
 |p::L,k,v,s=>by
  unfold Rw
  by_cases d:la k p.1=true
  .grind[xN,la,Rw]
  .rw[gV d];unfold xN;rw[MJ L k v s]
   grind[la]
def vO (L:List (gz×Nat)) (c:Nat) (ks:List gz):List (gz×Nat):=ks.foldl (λL k=>Rw L k (xN L k|||c)) L
def Wv (L:List (gz×Nat)) (ks:List gz) (c n:Nat) (d:n < ks.length):vO L c (ks.take (n+1))=Rw (vO L c (ks.take n)) ks[n] (xN (vO L c (ks.take n)) ks[n]|||c):=by
 unfold vO;rw[abj d,List.foldl_append];rfl
def aha:∀a c:Fin 16,a.1|||c.1 < 16:=by decide
def tN {c : Nat} (d:c < 16) (ks:List gz):∀(L:List (gz×Nat)),(∀s,xN L s < 16)->∀s,xN (vO L c ks) s < 16:=by
 induction ks with
 |nil=>simp[vO]
 |cons k ks ih=>
  intro L h;refine ih _ λs=>?_;rw[MJ];split
  .exact aha ⟨_,h k⟩ ⟨c,d⟩
  grind
def afw:∀a c:Fin 16,IntKind.i64.wrap (((BitVec.ofInt 64 (a.1:Int))|||(BitVec.ofInt 64 (c.1:Int))).toNat:Int)=((a.1|||c.1:Nat):Int):=by decide
def abN:∀a c:Fin 16,IntKind.i64.wrap (((BitVec.ofInt 64 (a.1:Int))&&& (BitVec.ofInt 64 (c.1:Int))).toNat:Int)=((a.1&&& c.1:Nat):Int):=by decide
def abS (a c:Nat) (d:a < 16) (f:c < 16):bits .or .i64 (a:Int) (c:Int)=((a|||c:Nat):Int):=afw ⟨a,d⟩ ⟨c,f⟩
def YU (a c:Nat) (d:a < 16) (f:c < 16):bits .and .i64 (a:Int) (c:Int)=((a&&& c:Nat):Int):=abN ⟨a,d⟩ ⟨c,f⟩
def aeG (b:Nat) (s:gz) (c:Nat) (L:List (gz×Nat)) (w:gx) (H:qq s=true) (ht:sr w) (hm:sW w b (AZ L)) (hc:c < 16) (hL:∀s,xN L s < 16):
  Calls prog 62 #[.agg #[.map (some b)],gh c,gH s] w λe w'=>e=pE/\sW w' b (AZ (vO L c (words s)))/\Kept [b] w w':=by
 have y:(words s).length<=4096:=by
  unfold qq at H;simp only[sq,BG]at H;exact H.2
 have N:Kept [] w (w.alloc (gL #[.map (some b)] 92)):=(Kept.refl _ _).alloc _;have Y:=fX w (gL #[.map (some b)] 92);have HF:=MF s (w.alloc (gL #[.map (some b)] 92)) H (Lib.tabIs_alloc ht _);have HM:=hm.kept N (by simp);have a0:=hm.lt;have HL:=hL;clear H ht hm hL;generalize words s=d at HF y|-;obtain⟨J,o⟩:∃J,J=w.alloc (gL #[.map (some b)] 92):=⟨_,rfl⟩;go_enter func62,ntmps62
 go_wp21
 refine HF.mono ?_;rintro e w1 ⟨rfl,l⟩;rw[<-o]at l Y N HM;have X:J.heap.size=w.heap.size+1:=by rw[o];simp
 have HG:w1.heap[w.heap.size+1]?=some (gL (d.map Value.string).toArray 9):=by rw[l,<-X];exact fX J _
 have R:Kept [] J w1:=by rw[l];exact(Kept.refl _ _).alloc _
 have U:=R.at Y (by simp);have HK:=N.trans R;have V:=HM.kept R (by simp);clear l R N Y;go_wp2
 go_loopw [11] (λi wr=>∃k:Nat,k<=d.length/\i=gh k/\sW wr b (AZ (vO L c (d.take k)))/\Kept [b] w wr/\wr.heap[w.heap.size+1]?=some (gL (d.map Value.string).toArray 9)/\wr.heap[w.heap.size]?=some (gL #[.map (some b)] 92)) (λi _=>d.length - (intOf i).toNat)
 case atStart=>exact⟨0,iN _,rfl,V,HK.mono (by simp),HG,U⟩
 case round=>
  obtain⟨k,hk,rfl,h,n,g,f⟩:=hrel
  by_cases D:k < d.length
  .have c1:wr.cell? ⟨w.heap.size+1,k,none⟩=some (gH d[k]):=by rw[fW g];simp[D]
   have c2:=fW f 0;dsimp at c2;have m:=tN hc (d.take k) L HL d[k];have A:=FV (T:=90) (E:=95) (z:=gh 0) (by simp) (by simp) h d[k];rw[Ju]at A;have r:=abS _ c m hc;have⟨w2,r2,HM2,k2,z2⟩:=RX (T:=90) (E:=95) (by simp) h d[k] (gh ((xN (vO L c (d.take k)) d[k]|||c:Nat):Int));rw[Rx,<-Wv L d c k D]at HM2;have a3:=n.trans k2;have a2:=k2.at g (by grind);have a1:=k2.at f (by grind);obtain⟨q,hq⟩:∃q,q=xN (vO L c (d.take k)) d[k]:=⟨_,rfl⟩;rw[<-hq]at A r r2;obtain⟨q2,I⟩:∃q2:Nat,q2=q|||c:=⟨_,rfl⟩;rw[<-I]at r r2;clear h n g f k2 z2 hq I m;go_wp2;go_roundw
   case rel=>grind
   case measure=>simp[intOf];omega
  .have Z:k=d.length:=by omega
   have a4:=(show sW wr b (AZ (vO L c d)) by grind);clear h g Z f;go_wp2;go_end0
   grind
def SA:List gz:=[kq,vf,um,jI,jm,iB]
def EY:List gz:=[fY,gZ,jt,iZ,jm,gI,nG,jW,mL,mM,oZ,rB,lh,lV,lW,nk,iP,ic,jI,kq,vf,um,fZ,gy,gn,iB,gq,gv,gr,il,iH,iI,gX,jb,jJ]
def KU:List gz:=[lV,lW,lh,gP,gp,nG]
def VW:List gz:=[fY,fZ,iH,iI,gy,gX]
def sx:List (gz×Nat):=vO (vO (vO (vO [] 1 SA) 2 EY) 4 KU) 8 VW
def sr.kept (h:sr w) (l:Kept S w w') (g:1∉S):sr w':=by
 unfold sr Lib.TabIs World.var? at *;have e:prog.globalNamed "strings.asciiSpace"=some 1:=rfl;simp only[e,Option.bind_some]at h|-;have d:1 < w.heap.size:=by
  rcases mO 1 w.heap.size with f|f
  .exact f
  .grind
 rw[l.block _ d g];exact h
def Il (b:Nat) (s:gz) (c:Nat) (L:List (gz×Nat)) (ks:List gz) (w:gx) (l:qq s=true) (d:words s=ks) (m:sr w) (h:sW w b (AZ L)) (g:c < 16) (f:∀s,xN L s < 16):
  Calls prog 62 #[.agg #[.map (some b)],gh c,gH s] w λe w'=>e=pE/\sW w' b (AZ (vO L c ks))/\Kept [b] w w':=by
 rw[<-d];exact aeG b s c L w l m h g f
def Rc:∀s,xN [] s < 16:=λ_=>Nat.zero_lt_succ 15
def Co (w:gx) (ht:sr w):
  Calls prog 40 #[] w λe w'=>∃bm,e=iw (.agg #[.map (some bm)])/\sW w' bm (AZ sx)/\Kept [] w w'/\w.heap.size<=bm:=by
 have a8:=@run_makeMap prog;obtain⟨W,f⟩:∃W,W=((w.alloc (gL #[.map none] 92)).alloc (.map #[] 0)).alloc (gL #[.map (some (w.heap.size+1))] 92):=⟨_,rfl⟩;have kW:Kept [] w W:=by rw[f];exact(((Kept.refl _ _).alloc _).alloc _).alloc _
 have H0:W.heap[w.heap.size]?=some (gL #[.map none] 92):=by
  rw[f,Below.heap_alloc _ _ _ (by simp;omega),Below.heap_alloc _ _ _ (by simp)];exact fX w _
 have g1:W.heap[w.heap.size+1]?=some (.map #[] 0):=by
  rw[f,Below.heap_alloc _ _ _ (by simp)];have:=fX (w.alloc (gL #[.map none] 92)) (.map #[] 0)
  rwa [xJ]at this
 have H2:W.heap[w.heap.size+1+1]?=some (gL #[.map (some (w.heap.size+1))] 92):=by
  rw[f];have:=fX ((w.alloc (gL #[.map none] 92)).alloc (.map #[] 0)) (gL #[.map (some (w.heap.size+1))] 92)
  rwa [xJ,xJ]at this
 have HM:sW W (w.heap.size+1) (AZ []):=⟨#[],0,g1,rfl⟩;have s:1∉[w.heap.size+1]:=by
  have a7:1 < w.heap.size:=by
   have h:=ht;unfold sr Lib.TabIs World.var? at h;have e:prog.globalNamed "strings.asciiSpace"=some 1:=rfl;simp only[e,Option.bind_some]at h;rcases mO 1 w.heap.size with h'|h'
   .exact h'
   .grind
  intro r;have:=List.mem_singleton.1 r;omega
 have HT:=ht.kept kW (by simp);have HK:=kW.mono (S':=[w.heap.size+1]) (by simp);have HW:=fV f;clear f;go_enter func40,ntmps40
 go_wp21
 rw[<-HW.out];refine(Il (w.heap.size+1) _ 1 [] SA W (by rfl) (by rfl) HT HM (by decide) Rc).mono ?_;rintro e w1 ⟨rfl,a0,y⟩;have n:=HT.kept y s;have U:=HK.trans y;have I:=y.at H0 (by simp);have g:=fV (y.at H2 (by simp));have c1:=fW g.out 0;dsimp at c1
 go_wp21
 refine(Il (w.heap.size+1) _ 2 (vO [] 1 SA) EY w1 rfl rfl n a0 (by decide) (tN (by decide) _ _ Rc)).mono ?_;rintro e w2 ⟨rfl,a1,A⟩;have o:=n.kept A s;have V:=U.trans A;have J:=A.at I (by simp);have l:=fV (A.at g (by simp));have c2:=fW l.out 0;dsimp at c2
 go_wp21
 refine(Il (w.heap.size+1) _ 4 (vO (vO [] 1 SA) 2 EY) KU w2 (by rfl) (by rfl) o a1 (by decide) (tN (by decide) _ _ (tN (by decide) _ _ Rc))).mono ?_;rintro e w3 ⟨rfl,a2,D⟩;have q:=o.kept D s;have X:=V.trans D;have N:=D.at J (by simp);have m:=fV (D.at l (by simp));have c3:=fW m.out 0;dsimp at c3
 go_wp21
 refine(Il (w.heap.size+1) _ 8 (vO (vO (vO [] 1 SA) 2 EY) 4 KU) VW w3 (by rfl) (by rfl) q a2 (by decide) (tN (by decide) _ _ (tN (by decide) _ _ (tN (by decide) _ _ Rc)))).mono ?_;rintro e w4 ⟨rfl,a3,H⟩;have a6:=q.kept H s;have Y:=X.trans H;have d:=fV (H.at N (by simp));have R:=fV (H.at m (by simp));have c4:=fW R.out 0;have f4:=gu d 0;have a5:=fW d.out 0;dsimp at c4 a5;have Z:=(Y.mono (S':=[]) (λk hk hl=>by grind)).setCell (p:=⟨w.heap.size,0,none⟩) (.inr (gW _)) (.map (some (w.heap.size+1)));have a4:=a3.keeps (w':=w4.setCell ⟨w.heap.size,0,none⟩ (.map (some (w.heap.size+1)))) (Below.heap_setCell w4 ⟨w.heap.size,0,none⟩ _ _ (by simp));have c5:=fW (gm d 0 (.map (some (w.heap.size+1)))) 0;go_wp2;refine oR (v:= .agg #[.map (some (w.heap.size+1))]) ?_ rfl ⟨w.heap.size+1,rfl,a4,Z,by omega⟩;simp[results,f40,go_sem,c5]
def Vk (L:List (gz×Nat)) (c:Nat) (s:gz):Bool:=decide (xN L s&&& c≠0)
def lB:gz->Bool:=Vk sx 2
def vG:gz->Bool:=Vk sx 4
def iS:gz->Bool:=Vk sx 8
def Va:∀s,xN sx s < 16:=tN (by decide) _ _ (tN (by decide) _ _ (tN (by decide) _ _ (tN (by decide) _ _ Rc)))
def abO (h l bm c:Nat) (L:List (gz×Nat)) (w:gx) (o:w.heap[h]?=some (gL #[.map (some bm)] 92)) (A:w.heap[l]?=some (gL #[gh c] 95)) (r:sW w bm (AZ L)) (R:c < 16) (D:∀s,xN L s < 16):
  oz [h,l,bm] (.func (.func 63) #[] #[gN h,gN l]) (Vk L c) w:=by
 refine⟨⟨_,_,rfl,enters_of func63 (by rfl) rfl,λW m s=>?_⟩,λe H=>?_⟩
 .have J:=fW (oE m (by simp) o) 0;have N:=fW (oE m (by simp) A) 0;dsimp at J N;have f:=FV (T:=90) (E:=95) (z:=gh 0) (by simp) (by simp) (r.keeps (m bm (by simp))) s;rw[Ju]at f;have d:=YU _ c (D s) R;have I:Vk L c s=decide (xN L s&&& c≠0):=rfl;rw[I];generalize xN L s=q at f d|-;obtain⟨n,g⟩:∃n:Nat,n=q&&& c:=⟨_,rfl⟩;rw[<-g]at d|-;clear o A r m D g I;show Calls prog 63 #[gH s,gN h,gN l] W _
  by_cases y:n=0
  .subst y;go_enter func63,ntmps63;go_wp2;go_ret;simp
  .have o:¬((n:Int)=0):=by omega
   rw[wj y];go_enter func63,ntmps63;go_wp2;go_ret
   simp_all
 .simp at H;rcases H with rfl|rfl|rfl
  .grind
  .grind
  .exact r.lt
def acC (d:Nat) (f:Int) (w:gx):
  Calls prog 106 #[gN d,gh f] w λe w'=>e=iw (.func (.func 180) #[] #[gN w.heap.size,gN (w.heap.size+1)])/\w'=((w.alloc (gL #[gN d] 121)).alloc (gL #[gh f] 177)):=by
 go_enter func106,ntmps106;go_wp2;go_ret;simp
def Oy (h:Nat) (f:Fn) (d g:jN) (w:gx):
  Calls prog 98 #[gN h,.func f d g] w λe w'=>e=iw (.func (.func 174) #[] #[gN w.heap.size])/\w'=(w.alloc (gL #[.func f d g] 211)):=by
 go_enter func98,ntmps98;go_wp2;go_ret;simp
def Oz (f:Nat) (g:Fn) (d h:jN) (w:gx):
  Calls prog 130 #[gN f,.func g d h] w λe w'=>e=iw (.func (.func 227) #[] #[gN (w.heap.size+1),gN w.heap.size])/\w'=((w.alloc (gL #[gN f] 121)).alloc (gL #[.func g d h] 69)):=by
 go_enter func130,ntmps130;go_wp2;go_ret;simp
def acD (f:Fn) (d g:jN) (w:gx):
  Calls prog 134 #[.func f d g] w λe w'=>e=iw (.func (.func 232) #[] #[gN w.heap.size])/\w'=(w.alloc (gL #[.func f d g] 69)):=by
 go_enter func134,ntmps134;go_wp2;go_ret;simp
def OA (f:Nat) (g:Fn) (d h:jN) (w:gx):
  Calls prog 142 #[gN f,.func g d h] w λe w'=>e=iw (.func (.func 237) #[] #[gN w.heap.size,gN (w.heap.size+1)])/\w'=((w.alloc (gL #[gN f] 121)).alloc (gL #[.func g d h] 168)):=by
 go_enter func142,ntmps142;go_wp2;go_ret;simp
def Q8 (f:Nat) (g:Fn) (d h:jN) (l:Int) (w:gx):
  Calls prog 127 #[gN f,.func g d h,gh l] w λe w'=>e=iw (.func (.func 224) #[] #[gN w.heap.size,gN (w.heap.size+1),gN (w.heap.size+1+1)])/\w'=(((w.alloc (gL #[gN f] 121)).alloc (gL #[.func g d h] 89)).alloc (gL #[gh l] 177)):=by
 go_enter func127,ntmps127;go_wp2;go_ret;simp
def OB (f:Nat) (g:Fn) (d h:jN) (m:gz) (l:Int) (w:gx):
  Calls prog 129 #[gN f,.func g d h,gH m,gh l] w λe w'=>e=iw (.func (.func 226) #[] #[gN w.heap.size,gN (w.heap.size+1),gN (w.heap.size+1+1),gN (w.heap.size+1+1+1)])/\w'=((((w.alloc (gL #[gN f] 121)).alloc (gL #[.func g d h] 89)).alloc (gL #[gH m] 9)).alloc (gL #[gh l] 177)):=by
 go_enter func129,ntmps129;go_wp2;go_ret;exact⟨by simp,rfl⟩
def IG:List TypeId:=[180,140,142,284,72,125,299,165,53,172,74]
def Wl:List TypeId:=[180,140,142,284,72,125,299,165,172]
def PE (h:t∈Wl):t∈IG:=by
 revert t;decide
def Calm (w:gx) (e:Nat):Prop:=(∃f d,w.heap[e]?=some (.map f d))\/∃c t,w.heap[e]?=some (gL c t)/\t∉IG
def Fr (bs:Nat) (w w':gx):Prop:=∃S,Kept S w w'/\∀k∈S,k < w.heap.size->(∃c t m,w.heap[k]?=some (.cells c t m)/\t∈Wl)/\bs<=k
def Fr.gU (h:Kept [] w w'):Fr bs w w':=⟨[],h,λ_ d=>by cases d⟩
def Fr.refl (w:gx):Fr bs w w:= .gU (Kept.refl _ _)
def Fr.size (h:Fr bs w w'):w.heap.size<=w'.heap.size:=by have⟨S,hk,_⟩:=h;exact hk.size
def Fr.calm (h:Fr bs w w') (l:Calm w e):w'.heap[e]?=w.heap[e]?:=by
 have⟨S,hk,hS⟩:=h;have d:e < w.heap.size:=by
  rcases l with⟨o,n,f⟩|⟨c,t,f,_⟩
  .grind
  .grind
 refine hk.block e d λq=>?_;have⟨⟨c,t,m,h2,ht⟩,_⟩:=hS e q d;rcases l with⟨o,n,f⟩|⟨r,s,f,g⟩
 .grind
 .rw[f]at h2;simp at h2;exact g (by rw[h2.2.1];exact PE ht)
def Fr.trans {b c : gx} (h:Fr bs a b) (k:Fr bs b c):Fr bs a c:=by
 have⟨S1,k1,h1⟩:=h;have⟨S2,k2,h2⟩:=k;refine⟨S1++S2,(k1.mono (λx f _=>by simp[f])).trans (k2.mono (λx f _=>by simp[f])),λx f d=>?_⟩
 by_cases g:x∈S1
 .grind
 .have l:x∈S2:=by simpa [g]using f
  have⟨⟨cc,t,m,hc,ht⟩,hbs⟩:=h2 x l (mi d k1.size);exact⟨⟨cc,t,m,(k1.block x d g).symm.trans hc,ht⟩,hbs⟩
def Fr.jQ (h:Kept S w w') (d:∀k∈S,(∃c t m,w.heap[k]?=some (.cells c t m)/\t∈Wl)/\bs<=k):Fr bs w w':=⟨S,h,λk f _=>d k f⟩
def Fr.cell (h:Fr bs w w') (d:w.heap[e]?=some (gL c t)) (f:t∉IG):w'.heap[e]?=some (gL c t):=(h.calm (.inr ⟨c,t,d,f⟩)).trans d
def Fr.kept (h:Fr bs w w') (d:Kept [] a w) (l:a.heap.size<=bs):Kept [] a w':=by
 have⟨S,hS,hT⟩:=h;refine⟨hS.os.trans d.os,hS.tape.trans d.tape,hS.output.trans d.output,j7 d.size hS.size,λk f _=>?_⟩;refine(hS.block k (mi f d.size) λg=>?_).trans (d.block k f (by simp));have:=(hT k g (mi f d.size)).2;omega
def Fr.Ap (h:Fr bs w w') {m : Nat×Nat} (f:w.heap[e]?=some (.cells c t m)) (l:t∉Wl):w'.heap[e]?=some (.cells c t m):=by
 have⟨S,hS,hT⟩:=h;have d:e < w.heap.size:=(Array.getElem?_eq_some_iff.1 f).1;refine(hS.block e d λg=>?_).trans f
 grind
def yE (bm:Nat) (w:gx) (e:Nat):Prop:=(e=bm/\∃f d,w.heap[e]?=some (.map f d))\/∃c t,w.heap[e]?=some (gL c t)/\t∉IG
def wU (bm:Nat) (w w':gx):Prop:=∃S,Kept S w w'/\∀k∈S,k < w.heap.size->(∃c t m,w.heap[k]?=some (.cells c t m)/\t∈IG)\/((∃f d,w.heap[k]?=some (.map f d))/\k≠bm)
def Fr.n (h:Fr bs w w') (bm:Nat):wU bm w w':=by
 have⟨S,hk,hS⟩:=h;exact⟨S,hk,λk d f=>by have⟨⟨c,t,m,h3,h4⟩,_⟩:=hS k d f;exact .inl ⟨c,t,m,h3,PE h4⟩⟩
def wU.gU (h:Kept [] w w'):wU bm w w':=(Fr.gU (bs:=0) h).n bm
def wU.refl (bm:Nat) (w:gx):wU bm w w:= .gU (Kept.refl _ _)
def wU.size (h:wU bm w w'):w.heap.size<=w'.heap.size:=by have⟨S,hk,_⟩:=h;exact hk.size
def wU.of_map (h:Kept [b] w w') (l:∃f d,w.heap[b]?=some (.map f d)) (g:b≠bm):wU bm w w':=⟨[b],h,λk m _=>by grind⟩
def wU.calm (h:wU bm w w') (g:yE bm w e):w'.heap[e]?=w.heap[e]?:=by
 have⟨S,hk,hS⟩:=h;have f:e < w.heap.size:=by
  rcases g with⟨_,o,n,d⟩|⟨c,t,d,_⟩
  .grind
  .grind
 refine hk.block e f λA=>?_;rcases hS e A f with⟨c,t,m,y,I⟩|⟨⟨s,r,y⟩,D⟩
 .rcases g with⟨_,o,n,d⟩|⟨q,H,d,l⟩
  all_goals grind
 .rcases g with⟨e1,o,n,d⟩|⟨q,H,d,l⟩
  all_goals grind
def yE.fr (d:yE bm w e) (h:wU bm w w'):yE bm w' e:=by
 have e1:=h.calm d
 grind[yE]
def wU.trans {b c : gx} (h:wU bm a b) (k:wU bm b c):wU bm a c:=by
 have⟨S1,k1,h1⟩:=h;have⟨S2,k2,h2⟩:=k;refine⟨S1++S2,(k1.mono (λx d _=>by simp[d])).trans (k2.mono (λx d _=>by simp[d])),λx d g=>?_⟩
 by_cases f:x∈S1
 .grind
 .have l:x∈S2:=by simpa [f]using d
  have e:=k1.block x g f
  grind
def wU.cell (h:wU bm w w') (d:w.heap[e]?=some (gL c t)) (f:t∉IG):w'.heap[e]?=some (gL c t):=(h.calm (.inr ⟨c,t,d,f⟩)).trans d
def xL (w:gx):Prop:=sr w/\∃c t,w.heap[1]?=some (gL c t)/\t∉IG
def xL.fr (d:xL w) (h:wU bm w w'):xL w':=by
 have⟨hb1,c,t,hc,ht⟩:=d;have e1:=h.calm (.inr ⟨c,t,hc,ht⟩);refine⟨?_,c,t,e1.trans hc,ht⟩;unfold sr Lib.TabIs World.var? at hb1|-;have e:prog.globalNamed "strings.asciiSpace"=some 1:=rfl
 grind
def Ask (bm:Nat) (v:gQ) (p:gz->Bool) (w:gx):Prop:=∃E,oz E v p w/\∀e∈E,yE bm w e
def Ask.fr (h:Ask bm v p w) (d:wU bm w w'):Ask bm v p w':=by
 have⟨E,hA,hC⟩:=h;exact⟨E,hA.keeps (λk g=>d.calm (hC k g)) d.size,λe f=>(hC e f).fr d⟩
def Ask.call (h:Ask bm v p w):∃k f,v= .func (.func k) #[] f/\(∀d w,(callFunc k d).run prog w= .ok (.enter k d) w)/\∀W,wU bm w W->∀s,Calls prog k (#[gH s]++f) W λe g=>e=iw (.bool (p s))/\g=W:=by
 have⟨E,hA,hC⟩:=h;have⟨k,f,hv,he,ha⟩:=hA.ex;exact⟨k,f,hv,he,λW m s=>ha W (λe l=>m.calm (hC e l)) s⟩
def Ov (bm g cap:Nat) (d:List gz) (w:gx) (o:w.heap[g]?=some (gL (d.map Value.string).toArray 9)) (f:d.length<=4096):
  Calls prog 225 #[oe g d.length cap] w λe w'=>(∃v,e=iw v/\Ask bm v (im d) w')/\Kept [] w w':=by
 refine(aea g cap d.length w).mono ?_;rintro e w' ⟨rfl,rfl⟩;have n:Kept [] w (w.alloc (gL #[oe g d.length cap] 204)):=(Kept.refl _ _).alloc _;have h:=fX w (gL #[oe g d.length cap] 204);have l:=n.at o (by simp);refine⟨⟨_,rfl,_,ZX _ g cap d _ h l f,λe m=>?_⟩,n⟩;simp at m;rcases m with rfl|rfl
 .exact .inr ⟨_,_,h,by decide⟩
 .exact .inr ⟨_,_,l,by decide⟩
def UY (bm c:Nat) (L:List (gz×Nat)) (w:gx) (q:sW w bm (AZ L)) (o:c < 16) (n:∀s,xN L s < 16):
  Calls prog 41 #[.agg #[.map (some bm)],gh c] w λe w'=>(∃v,e=iw v/\Ask bm v (Vk L c) w')/\Kept [] w w':=by
 have h:Calls prog 41 #[.agg #[.map (some bm)],gh c] w λe w'=>e=iw (.func (.func 63) #[] #[gN w.heap.size,gN (w.heap.size+1)])/\w'=(w.alloc (gL #[.map (some bm)] 92)).alloc (gL #[gh c] 95):=by
  go_enter func41,ntmps41;go_wp2;go_ret;exact⟨by simp,rfl⟩
 refine h.mono ?_;rintro e w' ⟨rfl,rfl⟩;have r:Kept [] w (w.alloc (gL #[.map (some bm)] 92)):=(Kept.refl _ _).alloc _;have l:=r.alloc (gL #[gh c] 95);have d:=fX (w.alloc (gL #[.map (some bm)] 92)) (gL #[gh c] 95);rw[xJ]at d;have f:=(Below.heap_alloc (w.alloc (gL #[.map (some bm)] 92)) (gL #[gh c] 95) w.heap.size (by simp)).trans (fX w _);have m:=q.kept l (by simp);refine⟨⟨_,rfl,_,abO _ _ bm c L _ f d m o n,λe g=>?_⟩,l⟩;simp at g;rcases g with rfl|rfl|rfl
 .exact .inr ⟨_,_,f,by decide⟩
 .exact .inr ⟨_,_,d,by decide⟩
 .have⟨es,ck,ha,_⟩:=m;exact .inl ⟨rfl,es,ck,ha⟩
def MY {d f : List Nat} {g h : Nat} (l:yE bm w g) (m:yE bm w h) (c1:∀e∈d,yE bm w e) (c2:∀e∈f,yE bm w e):∀e∈g::h::(d++f),yE bm w e:=by
 grind
def afv (bm:Nat) (v1 v2:gQ) (p q:gz->Bool) (w:gx) (m:Ask bm v1 p w) (n:Ask bm v2 q w):
  Calls prog 245 #[v1,v2] w λe w'=>(∃v,e=iw v/\Ask bm v (λs=>p s||q s) w')/\Kept [] w w':=by
 have⟨E1,a1,c1⟩:=m;have⟨E2,a2,c2⟩:=n;refine(acP E1 E2 v1 v2 p q w a1 a2).mono ?_;rintro e w' ⟨⟨v,rfl,l,g,h⟩,f⟩;exact⟨⟨v,rfl,_,l,MY (.inr ⟨_,_,g,by decide⟩) (.inr ⟨_,_,h,by decide⟩) (λe d=>(c1 e d).fr (.gU f)) (λe d=>(c2 e d).fr (.gU f))⟩,f⟩
def acG (bm:Nat) (v1:gQ) (p:gz->Bool) (w:gx) (l:Ask bm v1 p w):
  Calls prog 244 #[v1] w λe w'=>(∃v,e=iw v/\Ask bm v (λs=>!p s) w')/\Kept [] w w':=by
 have⟨E1,a1,c1⟩:=l;refine(aak E1 v1 p w a1).mono ?_;rintro e w' ⟨⟨v,rfl,h,g⟩,f⟩;refine⟨⟨v,rfl,_,h,λe d=>?_⟩,f⟩;simp at d;rcases d with rfl|d
 .exact .inr ⟨_,_,g,by decide⟩
 .exact(c1 e d).fr (.gU f)
end
end Go.Proofs.YtlhhgenpcjjajaaGreatDoor
