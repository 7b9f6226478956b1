import Derived.WalkSpells
import Derived.WalkLawsBesides
import Derived.Lib.AppendZerosOnto
import Derived.Shelf.Spec.SlicesInsert
import Derived.RangeFuncNested
import Derived.RangeFuncBound
import Derived.Shelf.RegionOpen
import Derived.OwnWalkIn
import Derived.LoopNIn
import Derived.LoopIn
import Derived.Deep.RegionHeld3
import Derived.Test.YthcohfdidcdchaaGreatDoorShelf
import Derived.PlainAid
import Derived.Lib.ItoaMem
set_option linter.unusedSimpArgs false
set_option linter.unusedVariables false
set_option linter.defProp false
set_option maxHeartbeats 0
set_option maxRecDepth 100000
namespace Go.Proofs.YthcohfdidcdchaaGreatDoor
open Go.RowKit Go.PlainAid Tryz
def gL:=@Nat.le_refl
def jH:=@Nat.le_trans
def lU:=@Nat.lt_of_lt_of_le
def adv:=@World.cell?_of_block
def iQ:=@lt_of_block
def QB:=@List.eq_nil_of_length_eq_zero
def pk:=@World.ownsRow_nil
def Ue:=@Sem.run_bind
def yH:=@List.map_cons
def gH:=@if_neg
def gv:=@if_pos
def FL:=@List.getElem?_take
def qq:=@run_underlying
def vQ:=@decide_eq_true
def wy:=@decide_eq_false
def uG:=@List.getElem_mem
def xO:=@wp_loop_rounds
def pj:=@rounds_succ
def rn:=@List.length_cons
def adu:=@List.take_succ_eq_append_getElem
def xP:=@Array.getElem?_eq_getElem
def jv:=@Option.some.inj
def uH:=@info_parts
def X9:=@List.getElem?_drop
def FM:=@Nat.mul_one
def Is:=@List.mem_of_mem_drop
def wA:=@List.append_assoc
def LQ:=@List.take_append_of_le_length
def Om:=@List.take_take
def T8:=@Nat.min_eq_left
def Ya:=@run_callFunc_extern
def BG:=@List.take_of_length_le
def Iu:=@List.drop_of_length_le
def FO:=@List.append_nil
def rp:=@List.nil_append
def Yb:=@run_copy_cells
def wB:=@Ne.symm
def rq:=@ownsRow_setCell_other
def nc:=@List.mem_cons_of_mem
def adw:=@List.dropLast_eq_take
def qs:=@List.getElem?_eq_getElem
def se:=@List.map_append
def tR:=@List.mem_of_getElem?
def Yc:=@List.reverse_append
def adx:=@List.eq_nil_or_concat
def T9:=@List.dropLast_concat
def ou:=@bodyPost_ret
def Iv:=@results_none
def sg:=@World.putObj_heap_other
def xQ:=@List.size_toArray
def uI:=@List.length_nil
def xR:=@Array.replicate_succ
def xS:=@Array.replicate_zero
def xU:=@List.push_toArray
def xV:=@List.append_toArray
def tU:=@List.cons_append
def Ua:=@List.getElem?_reverse
def FP:=@List.take_add_one
def sK:=@ByteArray.toList_eq
def ady:=@List.findIdx_lt_length_of_exists
def si:=@congrArg
def xW:=@World.size_alloc
def Ub:=@List.cons.injEq
def Uc:=@Array.size_setIfInBounds
def FQ:=@Array.getElem?_setIfInBounds_ne
def LR:=@MapKept.run_getObj_map
def Yd:=@Array.getElem?_toList
def Ud:=@List.filter_eq_nil_iff
def pW:=@Bool.and_eq_true
def LS:=@List.mem_filter
def Uf:=@Array.getD_eq_getD_getElem?
def LU:=@Array.getElem?_eq_none
def kK:=@List.mem_cons_self
def xX:=@List.getD_eq_getElem?_getD
def Ye:=@List.getElem?_append_left
def LV:=@List.all_eq_true
def FR:=@List.mem_range
def ru:=@Bool.false_eq_true
def vR:=@wp_region_any
def jY:=@wpOp_step
def Ug:=@Lib.run_eql_slice_nil
def iM:=@Nat.zero_le
def uJ:=@World.cell?_alloc_lt
def FT:=@List.take_append_drop
def BI:=@callsIn_wide
def On:=@List.flatMap_append
def BJ:=@grownBy_putObj'
def Yf:=@wpIn_rangeFunc
def LW:=@run_endLoop
def LX:=@World.putObj_heap_same
def Db:=@wpIn_mono
def Yg:=@KeepsOthers.setCell
def Yh:=@run_enterLoop_outer
def Iw:=@World.alloc_heap_new
def BK:=@callsIn_of_wp_marks
def oj:=@List.length_append
def sL:=@run_takeDeferred
def Iy:=@Nat.zero_add
def pJ:=@Nat.lt_or_ge
def Dc:=@List.drop_eq_getElem_cons
def rj:=@if_false
def vk:=@beq_eq_false_iff_ne
def DX:=@Lib.run_neq_ptr_same
def Qt:=@Array.length_toList
def vm:=@Nat.le_mul_of_pos_left
def Qu:=@Lib.size_eq
def DY:=@List.flatMap_cons
def vn:=@List.flatMap_nil
def BC:=@decide_eq_true_eq
def vo:=@if_true
def wj:=@List.foldl_append
def Qv:=@List.length_eraseIdx_of_lt
abbrev fY:=ByteArray
abbrev gm:=World
abbrev gG:=Value
abbrev la:=List (ByteArray×ByteArray)
abbrev kG:=List (Option Nat)
abbrev iY:=Option Nat
abbrev jA:=Array Value
@[simp,go_sem] abbrev jB:ByteArray:=⟨#[]⟩
@[simp,go_sem] abbrev yo:ByteArray:=⟨#[10]⟩
@[simp,go_sem] abbrev lV:ByteArray:=⟨#[100,100]⟩
@[simp,go_sem] abbrev jR:ByteArray:=⟨#[100,105,118]⟩
@[simp,go_sem] abbrev ry:ByteArray:=⟨#[100,108]⟩
@[simp,go_sem] abbrev lW:ByteArray:=⟨#[100,116]⟩
@[simp,go_sem] abbrev iH:ByteArray:=⟨#[102,111,114,109]⟩
@[simp,go_sem] abbrev gJ:ByteArray:=⟨#[104,101,97,100]⟩
@[simp,go_sem] abbrev lX:ByteArray:=⟨#[104,105,100,100,101,110]⟩
@[simp,go_sem] abbrev rA:ByteArray:=⟨#[104,114]⟩
@[simp,go_sem] abbrev fO:ByteArray:=⟨#[104,116,109,108]⟩
@[simp,go_sem] abbrev mG:ByteArray:=⟨#[104,49]⟩
@[simp,go_sem] abbrev mH:ByteArray:=⟨#[104,50]⟩
@[simp,go_sem] abbrev BL:ByteArray:=⟨#[105]⟩
@[simp,go_sem] abbrev pK:ByteArray:=⟨#[105,109,103]⟩
@[simp,go_sem] abbrev jc:ByteArray:=⟨#[105,110,112,117,116]⟩
@[simp,go_sem] abbrev kV:ByteArray:=⟨#[108,105]⟩
@[simp,go_sem] abbrev iS:ByteArray:=⟨#[109,101,116,97]⟩
@[simp,go_sem] abbrev ox:ByteArray:=⟨#[110,111,116,105,110,59]⟩
@[simp,go_sem] abbrev nw:ByteArray:=⟨#[110,111,116,105,110,69,59]⟩
@[simp,go_sem] abbrev oy:ByteArray:=⟨#[110,111,116,110,105,59]⟩
@[simp,go_sem] abbrev iA:ByteArray:=⟨#[110,111,98,114]⟩
@[simp,go_sem] abbrev fU:ByteArray:=⟨#[111,112,116,103,114,111,117,112]⟩
@[simp,go_sem] abbrev gF:ByteArray:=⟨#[111,112,116,105,111,110]⟩
@[simp,go_sem] abbrev gP:ByteArray:=⟨#[111,98,106,101,99,116]⟩
@[simp,go_sem] abbrev nf:ByteArray:=⟨#[112]⟩
@[simp,go_sem] abbrev ng:ByteArray:=⟨#[112,114,101]⟩
@[simp,go_sem] abbrev iW:ByteArray:=⟨#[115,101,108,101,99,116]⟩
@[simp,go_sem] abbrev iK:ByteArray:=⟨#[115,116,121,108,101]⟩
@[simp,go_sem] abbrev il:ByteArray:=⟨#[116,100]⟩
@[simp,go_sem] abbrev jC:ByteArray:=⟨#[116,101,120,116,97,114,101,97]⟩
@[simp,go_sem] abbrev fX:ByteArray:=⟨#[116,102,111,111,116]⟩
@[simp,go_sem] abbrev im:ByteArray:=⟨#[116,104]⟩
@[simp,go_sem] abbrev fZ:ByteArray:=⟨#[116,104,101,97,100]⟩
@[simp,go_sem] abbrev qd:ByteArray:=⟨#[116,105,109,101,115]⟩
@[simp,go_sem] abbrev ny:ByteArray:=⟨#[116,105,109,101,115,98,59]⟩
@[simp,go_sem] abbrev jp:ByteArray:=⟨#[116,105,116,108,101]⟩
@[simp,go_sem] abbrev gX:ByteArray:=⟨#[116,114]⟩
@[simp,go_sem] abbrev ol:ByteArray:=⟨#[116,121,112,101]⟩
@[simp,go_sem] abbrev fQ:ByteArray:=⟨#[116,97,98,108,101]⟩
@[simp,go_sem] abbrev fW:ByteArray:=⟨#[116,98,111,100,121]⟩
@[simp,go_sem] abbrev pc:ByteArray:=⟨#[117,108]⟩
@[simp,go_sem] abbrev tG:ByteArray:=⟨#[194,160]⟩
@[simp,go_sem] abbrev qe:ByteArray:=⟨#[226,139,185,204,184]⟩
@[simp,go_sem] abbrev AA:ByteArray:=⟨#[32]⟩
@[simp,go_sem] abbrev mU:ByteArray:=⟨#[32,9,10,12]⟩
@[simp,go_sem] abbrev jm:ByteArray:=⟨#[32,9,10,12,47,62]⟩
@[simp,go_sem] abbrev qf:ByteArray:=⟨#[32,9,10,12,47,62,61]⟩
@[simp,go_sem] abbrev mJ:ByteArray:=⟨#[32,9,10,12,62]⟩
@[simp,go_sem] abbrev lY:ByteArray:=⟨#[33,100,111,99,116,121,112,101]⟩
@[simp,go_sem] abbrev nZ:ByteArray:=⟨#[34]⟩
@[simp,go_sem] abbrev uK:ByteArray:=⟨#[38]⟩
@[simp,go_sem] abbrev rW:ByteArray:=⟨#[38,103,116,59]⟩
@[simp,go_sem] abbrev lA:ByteArray:=⟨#[38,108,116,59]⟩
@[simp,go_sem] abbrev np:ByteArray:=⟨#[38,110,98,115,112,59]⟩
@[simp,go_sem] abbrev pd:ByteArray:=⟨#[38,113,117,111,116,59]⟩
@[simp,go_sem] abbrev ke:ByteArray:=⟨#[38,97,109,112,59]⟩
@[simp,go_sem] abbrev tV:ByteArray:=⟨#[39]⟩
@[simp,go_sem] abbrev oT:ByteArray:=⟨#[45,45,62]⟩
@[simp,go_sem] abbrev zq:ByteArray:=⟨#[45,62]⟩
@[simp,go_sem] abbrev qJ:ByteArray:=⟨#[60]⟩
@[simp,go_sem] abbrev nh:ByteArray:=⟨#[60,33,45,45]⟩
@[simp,go_sem] abbrev iI:ByteArray:=⟨#[60,33,68,79,67,84,89,80,69,32]⟩
@[simp,go_sem] abbrev qt:ByteArray:=⟨#[60,47]⟩
@[simp,go_sem] abbrev rB:ByteArray:=⟨#[61,34]⟩
@[simp,go_sem] abbrev iO:ByteArray:=⟨#[62]⟩
@[simp,go_sem] abbrev mh:ByteArray:=⟨#[78,101,119,76,105,110,101,59]⟩
@[simp,go_sem] abbrev uz:ByteArray:=⟨#[97]⟩
@[simp,go_sem] abbrev Iz:ByteArray:=⟨#[98]⟩
@[simp,go_sem] abbrev gr:ByteArray:=⟨#[98,111,100,121]⟩
@[simp,go_sem] abbrev jS:ByteArray:=⟨#[98,114]⟩
@[simp,go_sem] abbrev gU:ByteArray:=⟨#[98,117,116,116,111,110]⟩
@[simp,go_sem] abbrev ic:ByteArray:=⟨#[99,111,108]⟩
@[simp,go_sem] abbrev fS:ByteArray:=⟨#[99,111,108,103,114,111,117,112]⟩
@[simp,go_sem] abbrev nA:ByteArray:=⟨#[99,111,112,121,115,114,59]⟩
@[simp,go_sem] abbrev gp:ByteArray:=⟨#[99,97,112,116,105,111,110]⟩
abbrev gE (b:Nat):Value:=.pointer (some ⟨b,0,none⟩)
abbrev jG (b k:Nat):Value:=.pointer (some ⟨b,k,none⟩)
abbrev fV (n:Int):Value:=.int .i64 n
abbrev ig (v:Value):Ending:=.returned v
abbrev pL:Ending:=.returned (.tuple #[])
abbrev oo (b n c:Nat):Value:=.slice (some ⟨b,0,none⟩) n c
abbrev ji:Value:=.slice none 0 0
abbrev gz (c:Array Value) (t:TypeId):Obj:=.cells c t (0,0)
abbrev gu (s:ByteArray):Value:=.string s
section
variable {A B W W' a w w' w0 w1 : gm} {C c : jA} {E K S : List Nat} {L : List (fY×gG)} {T e t tB : TypeId} {ao : Option Addr} {gx : la} {av kv u v v' : gG} {b bB bD base bm cap g i j k l sz : Nat} {name : fY} {o : Obj} {p vd : fY->Bool} {je x : iY} {vv : gG×Bool} {xs : kG} {z : Array Bool}
def fM {p : Prop} (h:p):Hid p:=h
structure Kept (S:List Nat) (w w':gm):Prop where
 os:w'.os=w.os
 tape:w'.tape=w.tape
 output:w'.output=w.output
 size:w.heap.size<=w'.heap.size
 block:∀k,k < w.heap.size->k∉S->w'.heap[k]?=w.heap[k]?
def Kept.refl (S:List Nat) (w:gm):Kept S w w:=⟨rfl,rfl,rfl,gL _,λ_ _ _=>rfl⟩
def Kept.trans {b c : gm} (h:Kept S a b) (k:Kept S b c):Kept S a c:=
 ⟨k.os.trans h.os,k.tape.trans h.tape,k.output.trans h.output,jH h.size k.size,λi d f=>(k.block i (lU d h.size) f).trans (h.block i d f)⟩
def Kept.mono {S' : List Nat} (h:Kept S w w') (n:∀k,k∈S->k < w.heap.size->k∈S'):Kept S' w w':=
 ⟨h.os,h.tape,h.output,h.size,λk d m=>h.block k d (λf=>m (n k f d))⟩
theorem Kept.next {S' : List Nat} {b c : gm} (h:Kept S a b) (k:Kept S' b c) (n:∀x∈S',x∈S\/a.heap.size<=x):Kept S a c:=
 ⟨k.os.trans h.os,k.tape.trans h.tape,k.output.trans h.output,jH h.size k.size,λi d f=>(k.block i (lU d h.size) (λm=>by grind)).trans (h.block i d f)⟩
def Kept.drew (h:Kept S a w):Kept S a w.drew:=⟨h.os,h.tape,h.output,h.size,h.block⟩
def Kept.drewN (h:Kept S a w) (q:Nat):Kept S a (w.drewN q):=⟨h.os,h.tape,h.output,h.size,h.block⟩
def Kept.alloc (h:Kept S a w) (o:Obj):Kept S a (w.alloc o):=
 ⟨h.os,h.tape,h.output,jH h.size (by simp),λk d f=>(Below.heap_alloc w o k (lU d h.size)).trans (h.block k d f)⟩
theorem Kept.setCell (h:Kept S a w) {p : Addr} (f:p.block∈S\/a.heap.size<=p.block) (u:gG):Kept S a (w.setCell p u):=
 ⟨h.os,h.tape,h.output,by simpa using h.size,λk m n=>by
  have d:k≠p.block:=by
   rintro rfl;rcases f with f|f
   .grind
   .omega
  exact(Below.heap_setCell w p u k d).trans (h.block k m n)⟩
theorem Kept.grown {d : iY} (h:Kept S a w) (f:w.grownBy w' d) (r:∀k,d=some k->k∈S\/a.heap.size<=k):Kept S a w':=
 ⟨f.os.trans h.os,f.tape.trans h.tape,f.output.trans h.output,jH h.size f.size,λk n s=>by
  have m:some k≠d:=by
   rintro rfl;rcases r k rfl with q|q
   .grind
   .omega
  exact(f.block k (lU n h.size) m).trans (h.block k n s)⟩
theorem Kept.below (h:Kept S w w') {B : Nat} (d:B<=w.heap.size) (n:∀k∈S,B<=k):Below B w w':=
 ⟨h.os,h.tape,h.output,h.size,λk f=>h.block k (lU f d) (λm=>by grind)⟩
def Kept.cell (h:Kept S w w') {p : Addr} (d:p.block < w.heap.size) (f:p.block∉S):w'.cell? p=w.cell? p:=adv (w:=w) (h.block p.block d f)
def Kept.at (h:Kept S w w') (d:w.heap[k]?=some o) (f:k∉S):w'.heap[k]?=some o:=
 (h.block k (iQ d) f).trans d
theorem yN {a : Nat} {m n : jA} {d f : TypeId} {q r : Nat×Nat} (s:w.heap[a]?=some (.cells m d q)) (y:w.heap[b]?=some (.cells n f r)) (h:d≠f):a≠b:=by
 grind
def fP (w:gm) (o:Obj):(w.alloc o).heap[w.heap.size]?=some o:=by
 show(w.heap.push o)[w.heap.size]?=some o;simp
theorem Kept.ownsRow (h:Kept S w w') {d : Nat} {n : Nat} {xs : List gG} (s:w.ownsRow base e d v n xs) (D:∀k,v.ownBlock=some k->k∉S):w'.ownsRow base e d v n xs:=by
 have⟨h1,m⟩:=s;refine⟨h1,?_⟩;rcases m with m|⟨g,cap,f,rfl,q,r,y⟩
 .grind
 .exact .inr ⟨g,cap,f,rfl,q,(h.at r (D g rfl)),y⟩
section
variable {P:Program} (w:gm)
theorem jM {w:gm} {base d:Nat} {e:TypeId} {f:Nat} {v:gG} {n:Nat} {xs:List gG} (h:w.ownsRow base e f v n xs) (r:d<=base):w.ownsRow d e f v n xs:=by
 have⟨h1,q⟩:=h;refine⟨h1,?_⟩;rcases q with q|⟨g,cap,m,rfl,s,y⟩
 .grind
 .exact .inr ⟨g,cap,m,rfl,jH r s,y⟩
def Pa {w w':gm} {d:iY} (h:w.grownBy w' none):w.grownBy w' d:=⟨h.os,h.tape,h.output,h.size,λk f _=>h.block k f (by simp)⟩
def Aw (base:Nat) (t V e:TypeId) (i:TypeInfo) (z:gG) (d h:Nat) (ht:P.underlying t=some (.slice e)) (X:P.info? e=some i) (hz:i.zero=some z)
  (s:i.size=d) (N:i.bytes=h) (U:z.cells.size=d) (R:0 < d)
  (v:gG) (n:Nat) (xs:List gG) (q:w.ownsRow base e d v n xs)
  (a:Addr) (m c:Nat) (f:List gG) (Z:f.length=m*d) (r:∀j u,f[j]?=some u->w.cell? (a.add j)=some u) (h1:∀u∈f,u.oneCell'=true)
  (I:n+m<=maxLen) (y:(n+m)*h<=140737488355328) (D:base<=w.heap.size):
  ∃v' w',(Builtin.append_ #[t,t] V #[v,.slice (some a) m c]).run P w= .ok v' w'/\w'.ownsRow base e d v' (n+m) (xs++f)/\w.grownBy w' v.ownBlock/\
   (v'.ownBlock=v.ownBlock\/∀k,v'.ownBlock=some k->w.heap.size<=k):=by
 rcases q.2 with⟨rfl,rfl⟩|⟨g,cap,a1,rfl,a2,hg,a5,a3,a4,a0⟩
 .have hx:xs=[]:=QB (by simpa using q.1);subst hx;have⟨v',w',hr,ho,hgr,_⟩:=run_append_own (P:=P) w w.heap.size t V e i z d h ht X hz s N U R (ji) 0 [] (pk _ _ _ _) a m c f Z r h1 I y (gL _);exact⟨v',w',hr,jM ho D,hgr,.inr λk Y=>(ho.lt k Y).1⟩
 .by_cases H:n+m<=cap
  .have⟨w',hr,ho,hgr⟩:=run_append_fits (P:=P) w base t V e i d ht X s g n cap xs q a m c f Z r h1 H;exact⟨_,w',hr,ho,hgr,.inl rfl⟩
  .have⟨v',w',hr,ho,hgr⟩:=run_append_arg_grows (P:=P) w t V e i z d h ht X hz s N U R ⟨g,0,none⟩ n cap xs q.1 (q.cells (g:=g) rfl) a m c f Z r (by omega) I y;exact⟨v',w',hr,jM ho D,Pa hgr,.inr λk Y=>(ho.lt k Y).1⟩
def ij {ops:Array Oper} {y:List Oper} {o:Oper} {a:Act} {Q:Exit->Act->gm->Prop} (X:o.guard=none) (s x:Operand) (t:TypeId)
  (ho:o.op= .call {callee:= .builtin .append,args:=#[s,x],argTypes:=#[t,t]})
  (base:Nat) (e:TypeId) (i:TypeInfo) (z:gG) (d q:Nat) (ht:P.underlying t=some (.slice e)) (hi:P.info? e=some i) (hz:i.zero=some z)
  (I:i.size=d) (V:i.bytes=q) (Z:z.cells.size=d) (Y:0 < d)
  (v:gG) (n:Nat) (xs:List gG) (hs:a.eval s=v) (N:w.ownsRow base e d v n xs)
  (R:Addr) (m c:Nat) (f:List gG) (hx:a.eval x= .slice (some R) m c) (hl:f.length=m*d) (H:∀j u,f[j]?=some u->w.cell? (R.add j)=some u) (h1:∀u∈f,u.oneCell'=true)
  (U:n+m<=maxLen) (r:(n+m)*q<=140737488355328) (D:base<=w.heap.size)
  (h:∀v' w',w'.ownsRow base e d v' (n+m) (xs++f)->w.grownBy w' v.ownBlock->(v'.ownBlock=v.ownBlock\/∀k,v'.ownBlock=some k->w.heap.size<=k)->wpList P ops Q y (a.put o.dst v') w'):wpList P ops Q (o::y) a w:=by
 refine wpList_plain X λ_ hK=>?_;have⟨v',w',hr,h2,h3,h4⟩:=Aw (P:=P) w base t o.type e i z d q ht hi hz I V Z Y v n xs N R m c f hl H h1 U r D;unfold Oper.wp execOp;simp only[ho,resolve,invoke,builtin,Ue,Sem.run_pure,Result.andThen_ok,List.map_toArray,yH,List.map_nil,hs,hx,hr];exact hK _ _ (h v' w' h2 h3 h4)
end
def kR (s:fY):List gG:=s.data.toList.map λb=>Value.int .u8 b.toNat
def adC (s:fY):(kR s).length=s.size:=by
 simp[kR]
def L9 (s t:fY):kR (s++t)=kR s++kR t:=by
 simp[kR]
def Uu (s:fY):∀u∈kR s,u.oneCell'=true:=by
 intro u d;simp[kR]at d;obtain⟨b,_,rfl⟩:=d;rfl
def fN (h:w.heap[b]?=some (gz c t)) (j:Nat):w.cell? ⟨b,j,none⟩=c[j]?:=by simp[World.cell?,h]
def gh (h:w.heap[b]?=some (gz c t)) (j:Nat):w.frozen? ⟨b,j,none⟩=false:=by simp[World.frozen?,h]
theorem fR (h:w.heap[b]?=some (gz c t)) (j:Nat) (u:gG):(w.setCell ⟨b,j,none⟩ u).heap[b]?=some (gz (c.setIfInBounds j u) t):=by
 have d:=iQ h;simp only[World.setCell];grind
theorem gw {d : Nat} {n : Nat} {xs : List gG} (h:w.ownsRow base e d v n xs):∃ao cap,v= .slice ao n cap:=by
 rcases h.2 with⟨rfl,m⟩|⟨g,cap,f,rfl,_⟩
 all_goals grind
theorem jj (g j:Nat):(⟨g,0,none⟩:Addr).add j=⟨g,j,none⟩:=by unfold Addr.add;grind
def ptr (x:iY):Option Addr:=x.map λk=>⟨k,0,none⟩
abbrev ku (x:iY):gG:= .pointer (ptr x)
def io (xs:kG) (n:Int):iY:=if 0<=n/\n < xs.length then xs.getD n.toNat none else none
structure yb (base b j:Nat) (tB:TypeId) (C:jA) (v:gG) (xs:kG) (w:gm):Prop where
 iw:w.heap[b]?=some (gz C tB)
 cell:C[j]?=some v
 row:w.ownsRow base 65 1 v xs.length (xs.map ku)
 ne:tB≠65
 le:xs.length<=4096
def yb.at (h:yb base b j tB C v xs w):w.cell? ⟨b,j,none⟩=some v:=by rw[fN h.iw];exact h.cell
def agF (base b j:Nat) (tB:TypeId) (C:jA) (v:gG) (xs:kG) (w:gm) (h:yb base b j tB C v xs w):
  Calls prog 260 #[jG b j] w λe w'=>e=ig (fV xs.length)/\w'=w:=by
 have d:=h.at;obtain⟨ao,cap,rfl⟩:=gw h.row;have H:=fM h;clear h;go_enter func260,ntmps260;go_wp2;go_ret;simp
theorem ab9 (base b j:Nat) (tB:TypeId) (C:jA) (v:gG) (xs:kG) (n:Int) (w:gm) (h:yb base b j tB C v xs w):
  Calls prog 239 #[jG b j,fV n] w λe w'=>e=ig (ku (io xs n))/\w'=w:=by
 have D:=h.at;have s:=h.le;by_cases N:n < 0
 .obtain⟨ao,cap,rfl⟩:=gw h.row;have m:io xs n=none:=by unfold io;rw[gH (by omega)]
  rw[m];go_enter func239,ntmps239;go_wp2;go_ret;exact⟨rfl,rfl⟩
 by_cases R:(xs.length:Int)<=n
 .obtain⟨ao,cap,rfl⟩:=gw h.row;have m:io xs n=none:=by unfold io;rw[gH (by omega)]
  rw[m];go_enter func239,ntmps239;go_wp2;go_ret;exact⟨rfl,rfl⟩
 obtain⟨k,rfl⟩:∃k:Nat,n=k:=⟨n.toNat,by omega⟩;have r:k < xs.length:=by omega
 have m:io xs k=xs[k]:=by unfold io;rw[gv (by omega)];simp[r]
 rw[m];rcases h.row.2 with⟨_,I⟩|⟨g,cap,q,rfl,_,f,y,_,_,d⟩
 .omega
 have H:w.cell? ⟨g,k,none⟩=some (ku xs[k]):=by
  rw[fN f];have:(q.toList.take (xs.length*1))[k]?=some (ku xs[k]):=by rw[d];simp[r]
  rw[FL]at this;split at this
  .grind
  .omega
 go_enter func239,ntmps239;go_wp2;go_ret;simp
def posOf (xs:kG) (x:iY):Int:=if xs.idxOf x < xs.length then (xs.idxOf x:Int)else -1
def uA (w:gm) (x:iY):Prop:=∀k,x=some k->∃c,w.heap[k]?=some (gz c 135)
def WV:(prog.info? 135).map (·.size)=some 4:=by kernel_rfl
def J3:prog.underlying 65=some (.pointer (prog.pointee 65)):=by kernel_rfl
theorem Ds {y : iY} (n:uA w x) (q:uA w y):
  (binOp .eql 65 (.pointer (ptr x)) (.pointer (ptr y))).run prog w= .ok (.bool (decide (x=y))) w:=by
 obtain⟨j,f,m⟩:=Option.map_eq_some_iff.1 WV;cases x with
 |none=>
  cases y with
  |none=>exact run_eql_pointer_nil (P:=prog) w 65 none J3
  |some b=>
   have h:∀d:Nat,(Op.equalIn (d+1) 65 (.pointer none) (gE b)).run prog w= .ok false w:=λd=>by
    simp[Op.equalIn,qq underlying65]
   show(binOp .eql 65 (.pointer none) (gE b)).run prog w= .ok (.bool false) w;simp only[binOp];simp[Op.equal,Op.maxDepth,h 9999]
 |some a=>
  cases y with
  |none=>exact run_eql_pointer_nil (P:=prog) w 65 (some ⟨a,0,none⟩) J3
  |some b=>
   by_cases h:a=b
   .subst h;rw[vQ rfl];exact run_eql_ptr_same (P:=prog) w (⟨a,0,none⟩:Addr) underlying65 f
   .have⟨ca,ha⟩:=n a rfl;have⟨cb,hb⟩:=q b rfl;rw[wy (by grind)];exact run_eql_ptr_other (P:=prog) w (a:=⟨a,0,none⟩) (b:=⟨b,0,none⟩) underlying65 f (by omega) (by simp) ha hb
def agY (v:gG) (xs:kG) (w:gm):Prop:=((xs=[]/\∃ao cap,v= .slice ao 0 cap)\/∃g cap,v=oo g xs.length cap/\∀k,(hk:k < xs.length)->w.cell? ⟨g,k,none⟩=some (ku xs[k]))/\∀x∈xs,uA w x
theorem aex (r:w.ownsRow base 65 1 v xs.length (xs.map ku)) (m:∀x∈xs,uA w x):agY v xs w:=by
 refine⟨?_,m⟩;rcases r.2 with⟨rfl,s⟩|⟨g,cap,h,rfl,_,f,q,_,_,d⟩
 .grind
 .refine .inr ⟨g,cap,rfl,λk n=>?_⟩;rw[fN f];have:(h.toList.take (xs.length*1))[k]?=some (ku xs[k]):=by rw[d];simp[n]
  grind
theorem acF (m:k < xs.length) (s:xs[k]=x) (f:∀j,j < k->xs[j]?≠some x):posOf xs x=k:=by
 have y:xs.idxOf x=k:=by
  have r:x∈xs:=s▸uG m;have q:=List.idxOf_lt_length_iff.2 r;have h:¬xs.idxOf x < k:=λd=>f _ d (by grind);have n:¬k < xs.idxOf x:=λd=>by
   have:=List.not_of_lt_findIdx (p:=(·==x)) (xs:=xs) (i:=k) (by simpa [List.idxOf]using d);grind
  omega
 grind[posOf]
theorem acG (d:∀j,j < xs.length->xs[j]?≠some x):posOf xs x= -1:=by
 grind[posOf]
theorem Ge (v:gG) (xs:kG) (x:iY) (w:gm) (h:agY v xs w) (n:uA w x) (X:xs.length<=4096):
  Calls prog 263 #[v,ku x] w λe w'=>e=ig (fV (posOf xs x))/\w'=w:=by
 rcases h with⟨⟨rfl,ao,cap,rfl⟩|⟨g,cap,rfl,y⟩,I⟩
 .go_enter func263,ntmps263;go_wp2;refine xO 1 ?_;rw[pj];go_wp2;go_ret;simp[posOf]
 .have H:=y;have R:=n;clear y n;have m:∀k,(q:k < xs.length)->(binOp .eql 65 (.pointer (ptr x)) (.pointer (ptr xs[k]))).run prog w= .ok (.bool (decide (x=xs[k]))) w:=λk q=>Ds R (I _ (uG q));have N:=fM m;clear m;go_enter func263,ntmps263;go_wp2
  go_loopw [8] (λi wr=>∃k:Nat,k<=xs.length/\i=fV k/\wr=w/\∀j,j < k->xs[j]?≠some x) (λi _=>xs.length - (intOf i).toNat)
  case atStart=>grind
  case round=>
   obtain⟨k,q,rfl,rfl,s⟩:=hrel;by_cases d:k < xs.length
   .have Y:=H k d;have D:=N k d;by_cases f:x=xs[k]
    .have r:=fM (acF d f.symm s);rw[vQ f]at D;clear f;go_wp2;go_ret;exact⟨by rw[r.out];rfl,rfl⟩
    .rw[wy f]at D;have U:=f;clear f;go_wp2;go_roundw
     case rel=>
      refine⟨k+1,by omega,by go_num,by simp,λj V=>?_⟩;grind
     case measure=>simp[intOf];omega
   .have r:=fM (acG (xs:=xs) (x:=x) (λj V=>s j (by omega)));go_wp2;go_ret;exact⟨by rw[r.out];rfl,rfl⟩
def jo:jA->Nat->List gG->jA
 |c,_,[]=>c
 |c,o,v::r=>jo (c.setIfInBounds o v) (o+1) r
def js:∀(d:List gG) (c:jA) (o:Nat),(jo c o d).size=c.size
 |[],_,_=>rfl
 |v::r,c,o=>by rw[jo,js r];simp
theorem kE:∀(d:List gG) (c:jA) (o:Nat),o+d.length<=c.size->(jo c o d).toList=c.toList.take o++d++c.toList.drop (o+d.length)
 |[],c,o,_=>by simp[jo]
 |v::r,c,o,h=>by
  have f:o+1+r.length<=(c.setIfInBounds o v).size:=by simp at h|-;omega
  rw[jo,kE r _ _ f];simp only[rn]at h;have e1:(c.setIfInBounds o v).toList=c.toList.set o v:=by simp
  rw[e1];have m:o < c.toList.length:=by simp;omega
  rw[adu (by grind),List.take_set_of_le (gL _),List.drop_set_of_lt (by omega)];grind
theorem kC:∀(d:List gG) (w:gm) (g:Nat) (c:jA) (t:TypeId) (m:Nat×Nat) (o:Nat),w.heap[g]?=some (.cells c t m)->(w.setCells g o d).heap[g]?=some (.cells (jo c o d) t m)
 |[],_,_,_,_,_,_,h=>h
 |v::r,w,g,c,t,m,o,h=>by
  rw[World.setCells,jo];refine kC r _ g _ t m (o+1) ?_;have f:=iQ h;rw[xP f]at h;have n:=jv h;simp only[World.setCell];grind
def Kept.setCells (d:b∈S\/a.heap.size<=b):∀(f:List gG) (o:Nat) {w:gm},Kept S a w->Kept S a (w.setCells b o f)
 |[],_,_,h=>h
 |v::r,o,w,h=>by rw[World.setCells];exact Kept.setCells d r (o+1) (h.setCell (p:=⟨b,o,none⟩) d v)
def aeI:(prog.info? 65).map (λi=>(i.zero,i.size,i.bytes))=some (some (.pointer none),1,8):=by kernel_rfl
theorem aba {l : List gG} {n : Nat} (d:i < j) (f:j<=n) (h:n<=l.length):
  ((l.take i++(l.take n).drop j++l.drop (i+(n - j))).take (n - (j - i)))=(l.take n).take i++(l.take n).drop j:=by
 have e:(l.take i++(l.take n).drop j).length=n - (j - i):=by simp;omega
 grind
theorem ahs (g cap i j n:Nat) (f:jA) (w:gm) (q:w.heap[g]?=some (gz f 65)) (a5:n<=cap) (Z:f.size=cap) (hi:i < j) (hj:j<=n) (a4:n<=4096)
  (h1:∀u∈f.toList.take n,u.oneCell'=true):
  Calls prog 264 #[oo g n cap,fV i,fV j] w λe w'=>e=ig (oo g (n - (j - i)) cap)/\
   ∃r,w'.heap[g]?=some (gz r 65)/\r.size=cap/\r.toList.take (n - (j - i))=(f.toList.take n).take i++(f.toList.take n).drop j/\Kept [g] w w':=by
 obtain⟨i0,V,a6,a0,a7⟩:=uH aeI;obtain⟨d,m⟩:∃d,d=(f.toList.take n).drop j:=⟨_,rfl⟩;have s:d.length=n - j:=by rw[m];simp;omega
 have N:∀t u,d[t]?=some u->f[j+t]?=some u:=by
  intro t u H;rw[m,X9,FL]at H;split at H
  .grind
  .cases H
 obtain⟨A,hA,R⟩:∃A:Addr,(if cap=j then some (⟨g,0,none⟩:Addr)else some ⟨g,j,none⟩)=some A/\Hid (∀t u,d[t]?=some u->w.drew.cell? (A.add t)=some u):=by
  by_cases h:cap=j
  .refine⟨⟨g,0,none⟩,by simp[h],λt u H=>?_⟩;grind
  .refine⟨⟨g,j,none⟩,by simp[h],λt u H=>?_⟩;rw[show(⟨g,j,none⟩:Addr).add t=⟨g,j+t,none⟩from by unfold Addr.add;simp];exact(fN q _).trans (N t u H)
 have s1:Hid (d.length=(n - j)*1):=by rw[FM];exact s
 have s2:Hid (∀u∈d,u.oneCell'=true):=λu H=>h1 u (Is (m▸H));have s3:Hid (∀t,t < d.length->(w.drew.cell? ⟨g,0+i*1+t,none⟩).isSome=true/\w.drew.frozen? ⟨g,0+i*1+t,none⟩=false):=by
  intro t ht;rw[s]at ht;refine⟨?_,gh q _⟩;show(w.cell? _).isSome=true;rw[fN q,xP (by omega)];rfl
 obtain⟨D,y⟩:∃D,D=w.drew.setCells g (0+i*1) d:=⟨_,rfl⟩;have I:D.heap[g]?=some (gz (jo f (0+i*1) d) 65):=by rw[y];exact kC d w.drew g f _ _ _ q
 have U:Kept [g] w D:=by rw[y];exact Kept.setCells (.inl (by simp)) d _ (Kept.refl _ _).drew
 have a1:∀ty,(Builtin.clear_ #[169] ty #[.slice (some ⟨g,i+(n - j),none⟩) (n - (i+(n - j))) (cap - (i+(n - j)))]).run prog D= .ok (.tuple #[]) (D.setCells g (i+(n - j)) (List.replicate (n - (i+(n - j))) (.pointer none))):=
  λty=>Lib.run_clear_slice D _ _ ty _ underlying169 Tryz.zeroValue65 rfl rfl g (i+(n - j)) _ _ (by omega) (λt ht=>by rw[fN I,xP (by rw[js];omega)];rfl) (λt ht=>gh I _)
 have HB:=kC (List.replicate (n - (i+(n - j))) (Value.pointer none)) D g _ _ _ (i+(n - j)) I;have HK:=Kept.setCells (S:=[g]) (a:=w) (b:=g) (.inl (by simp)) (List.replicate (n - (i+(n - j))) (Value.pointer none)) (i+(n - j)) U;have X:(jo f (0+i*1) d).toList=f.toList.take (0+i*1)++d++f.toList.drop (0+i*1+d.length):=kE _ _ _ (by omega);have Y:=kE (List.replicate (n - (i+(n - j))) (Value.pointer none)) (jo f (0+i*1) d) (i+(n - j)) (by rw[js];grind);have HF:(jo (jo f (0+i*1) d) (i+(n - j)) (List.replicate (n - (i+(n - j))) (Value.pointer none))).toList.take (n - (j - i))=(f.toList.take n).take i++(f.toList.take n).drop j:=by
  rw[Y,wA,LQ (by simp[js];omega),X,s,m];rw[Om,T8 (by omega)];have:=aba (l:=f.toList) hi hj (by grind)
  simpa using this
 have HW:=fM y;have a2:i<=cap:=by omega
 have a3:j<=cap:=by omega
 clear y;go_enter func264,ntmps264;go_wp2_with fail
 go_region_law (refine step_append_room rfl (.tmp 22) (.tmp 25) 169 rfl 65 i0 1 underlying169 V a0 g 0 i cap (by simp[Act.eval,Act.put]) A (n - j) (cap - j) d (by simp[Act.eval,Act.put]) s1 R s2 (by omega) s3 ?_;rw[<-HW.out])
 go_wp2;go_ret;exact⟨by rw[show n - (j - i)=i+(n - j) by omega];rfl,_,HB,by rw[js,js];exact Z,HF,HK⟩
def ahG:(prog.info? 65).map (λi=>(i.zero,i.size,i.bytes))=some (some (.pointer none),1,8):=by kernel_rfl
def IK (T S F O B:Nat) (z:gG):Prop:=(T=65/\S=169/\F=378/\O=380/\B=8/\z= .pointer none)\/(T=137/\S=133/\F=257/\O=310/\B=16/\z= .nilIface)
section
variable {T S F O B:Nat} {z:gG}
def IK.abP (K:IK T S F O B z):(prog.info? T).map (λi=>(i.zero,i.size,i.bytes))=some (some z,1,B)/\prog.underlying S=some (.slice T)/\(prog.info? T).map (·.size)=some 1/\(∀w,(sizeOf T).run prog w= .ok 1 w)/\∀a w,(callFunc O a).run prog w=((Extern.SlicesOverlaps.overlaps #[S,S] #[4] a).run prog w).andThen λv w'=> .ok (.value v) w':=by
 rcases K with⟨rfl,rfl,rfl,rfl,rfl,rfl⟩|⟨rfl,rfl,rfl,rfl,rfl,rfl⟩
 .exact⟨by kernel_rfl,underlying169,by kernel_rfl,Tryz.sizeOf65,Ya func380 (by kernel_rfl) (by kernel_rfl) (by kernel_rfl) (by kernel_rfl)⟩
 .exact⟨by kernel_rfl,underlying133,by kernel_rfl,Tryz.sizeOf137,Ya func310 (by kernel_rfl) (by kernel_rfl) (by kernel_rfl) (by kernel_rfl)⟩
def aav (T base:Nat) (v:gG) (n i:Nat) (xs:List gG) (u:gG) (w:gm) (e:Ending) (w':gm):Prop:=
 ∃v',e=ig v'/\w'.ownsRow base T 1 v' (n+1) (xs.take i++[u]++xs.drop i)/\Kept v.ownBlock.toList w w'/\(v'.ownBlock=v.ownBlock\/∀k,v'.ownBlock=some k->w.heap.size<=k)
theorem Zg (K:IK T S F O B z) (base n D:Nat) (v u:gG) (xs:List gG) (w:gm) (h:w.ownsRow base T 1 v n xs) (Z:w.heap[D]?=some (gz #[u] T)) (hu:u.oneCell'=true) (a0:n<=1048576) (V:base<=w.heap.size):
  Calls prog F #[v,fV n,oo D 1 1] w (aav T base v n n xs u w):=by
 obtain⟨i0,X,r,s,y⟩:=uH K.abP.1;have R:=K.abP.2.1;obtain⟨ao,cap,rfl⟩:=gw h;have Y:xs.length=n:=by have:=h.1;omega
 have U:=fM Z;clear Z;rcases K with⟨rfl,rfl,rfl,rfl,rfl,rfl⟩|⟨rfl,rfl,rfl,rfl,rfl,rfl⟩
 all_goals
  by_cases I:cap=n;subst I;have H:=fM h;clear h
  first|go_enter func378,ntmps378|go_enter func257,ntmps257
  go_wp2_with (at_builtin;refine ij _ rfl _ _ _ rfl base _ i0 _ 1 _ R X r s y rfl (by decide) (.slice ao cap cap) cap xs rfl H ⟨D,0,none⟩ 1 1 [u] rfl rfl (λj x q=>by rw[jj,fN U.out,<-q];simp) (λx q=>by grind) (by unfold maxLen;omega) (by omega) V ?_;intro v' w2 f d m);have N:=(Kept.refl (Value.slice ao cap cap).ownBlock.toList w).grown d (λk hk=> .inl (by grind))
  rotate_left
  have H:=fM h;clear h
  first|go_enter func378,ntmps378|go_enter func257,ntmps257
  go_wp2_with (at_builtin;refine ij _ rfl _ _ _ rfl base _ i0 _ 1 _ R X r s y rfl (by decide) (.slice ao n cap) n xs rfl H ⟨D,0,none⟩ 1 1 [u] rfl rfl (λj x q=>by rw[jj,fN U.out,<-q];simp) (λx q=>by grind) (by unfold maxLen;omega) (by omega) V ?_;intro v' w2 f d m);have N:=(Kept.refl (Value.slice ao n cap).ownBlock.toList w).grown d (λk hk=> .inl (by grind))
  all_goals
   have HN:=f;have HF:=m;go_wp2;go_ret;refine⟨_,rfl,?_,N,HF⟩;rw[BG (by omega),Iu (by omega),FO];exact HN
theorem Vc {l:List gG} {n i:Nat} {u:gG} {c:jA} (d:c.toList.take n=l) (q:n+1<=c.size) (m:i < n):
  (jo (jo c (i+1) (l.drop i)) i [u]).toList.take (n+1)=l.take i++[u]++l.drop i:=by
 have h:l.length=n:=by rw[<-d];simp;omega
 have f:=kE (l.drop i) c (i+1) (by grind);rw[kE [u] _ i (by rw[js];grind),f];have e1:(c.toList.take (i+1)++l.drop i++c.toList.drop (i+1+(l.drop i).length)).take i=l.take i:=by
  rw[wA,LQ (by grind),Om,T8 (by omega),<-d,Om,T8 (by omega)]
 have e2:(c.toList.take (i+1)++l.drop i++c.toList.drop (i+1+(l.drop i).length)).drop (i+[u].length)=l.drop i++c.toList.drop (i+1+(l.drop i).length):=by
  rw[wA,List.drop_append_of_le_length (by grind),Iu (by grind),rp]
 rw[e1,e2,<-wA,LQ (by grind),BG (by grind)]
theorem R7 (K:IK T S F O B z) (base g cap n i r:Nat) (u:gG) (f:jA) (xs:List gG) (w:gm) (a0:base<=g) (d:w.heap[g]?=some (gz f T)) (H:f.toList.take n=xs) (a5:f.size=cap) (hm:cap<=maxLen)
  (a4:n+1<=cap) (hi:i < n) (Y:w.heap[r]?=some (gz #[u] T)) (a2:r≠g) (hu:u.oneCell'=true) (h1:∀x∈xs,x.oneCell'=true) (ac:n<=1048576):
  Calls prog F #[oo g n cap,fV i,oo r 1 1] w (aav T base (oo g n cap) n i xs u w):=by
 have V:xs.length=n:=by rw[<-H];simp;omega
 obtain⟨_,HU,Z,HZ,HP⟩:=K.abP;have a3:∀lb cb,(callFunc O #[oo r 1 1,.slice (some ⟨g,i+1,none⟩) lb cb]).run prog w= .ok (.value (.bool false)) w:=λlb cb=>by
  rw[HP,Lib.run_overlaps_apart w S 4 T HU 1 HZ ⟨r,0,none⟩ ⟨g,i+1,none⟩ 1 1 lb cb a2 T T 1 cap (by simp[World.shape?,Y]) (by simp[World.shape?,d,a5]) (by omega) (gh Y 0) (gh Y 1)];rfl
 have X:∀j,j < cap->(w.cell? ⟨g,j,none⟩).isSome=true:=λj s=>by rw[fN d,xP (by omega)];rfl
 have a1:∀j x,xs[j]?=some x->w.cell? ⟨g,j,none⟩=some x:=λj x s=>by
  rw[fN d];grind
 have ab:(xs.drop i).length=n - i:=by rw[List.length_drop,V]
 obtain⟨h,q⟩:∃h,h=w.drew.setCells g (i+1) (xs.drop i):=⟨_,rfl⟩;have R:∀I y sc,(Builtin.copy_ #[S,S] I #[.slice (some ⟨g,i+1,none⟩) (n - i) y,.slice (some ⟨g,i,none⟩) (n+1 - i) sc]).run prog w.drew= .ok (goInt (xs.drop i).length) h:=λI y sc=>by
  rw[q];exact Yb w.drew _ _ I T g (i+1) (n - i) y ⟨g,i,none⟩ (n+1 - i) sc (xs.drop i) HU Z (by grind)
   (λj x s=>by rw[Addr.add_lit];simp_all)
   (λj s=>X _ (by omega)) (λj s=>gh d _) (λx hx=>h1 x (Is hx))
 have m:h.heap[g]?=some (gz (jo f (i+1) (xs.drop i)) T):=by rw[q];exact kC (xs.drop i) w.drew g f _ _ _ d
 have D:Kept [g] w h:=by rw[q];exact Kept.setCells (.inl (by simp)) _ _ (Kept.refl _ _).drew
 have N:h.heap[r]?=some (gz #[u] T):=D.at Y (by grind);have U:∀I y,(Builtin.copy_ #[S,S] I #[.slice (some ⟨g,i,none⟩) (n+1 - i) y,oo r 1 1]).run prog h= .ok (goInt 1) (h.setCells g i [u]):=λI y=>
  Yb h _ _ I T g i (n+1 - i) y ⟨r,0,none⟩ 1 1 [u] HU Z (by grind)
   (λj x s=>by rw[jj,fN N,<-s];simp)
   (λj s=>by rw[fN m,xP (by rw[js];grind)];rfl) (λj s=>gh m _) (λx hx=>by grind)
 have HB:=kC [u] h g _ _ _ i m;have HK:=Kept.setCells (S:=[g]) (a:=w) (b:=g) (.inl (by simp)) [u] i D;have HF:=Vc (u:=u) H (by omega:n+1<=f.size) hi;clear m D q d Y N h1 X a1 H;have ae:IntKind.i64.wrap ((i:Int)+1)=(i:Int)+1:=by rw[IntKind.wrap_i64];omega
 have a6:(0:Int)<=(i:Int)+1:=by omega
 have a7:(i:Int)+1<=(n:Int)+1:=by omega
 have ad:((i:Int)+1).toNat=i+1:=by omega
 have a8:(i:Int)<=(n:Int)+1:=by omega
 have a9:¬(cap=i+1):=by omega
 have aa:¬(cap=i):=by omega
 rcases K with⟨rfl,rfl,rfl,rfl,rfl,rfl⟩|⟨rfl,rfl,rfl,rfl,rfl,rfl⟩
 all_goals
  first|go_enter func378,ntmps378|go_enter func257,ntmps257
  go_wp2_with (simp only[a3])
  go_region_law (refine step_copy_runI rfl _ _ _ _ rfl _ _ (by simp[Act.eval,Act.put]) (by simp[Act.eval,Act.put]) (R _ _ _) ?_)
  go_wp2_with (at_builtin;refine wpList_copy_runI _ rfl _ _ _ _ rfl _ _ rfl rfl (U _ _) ?_);go_ret;exact⟨_,rfl,⟨by grind,.inr ⟨g,cap,_,rfl,a0,HB,by omega,hm,by rw[js,js];omega,by grind⟩⟩,HK,.inl rfl⟩
theorem R6 {l:List gG} {n i:Nat} {u:gG} {R:jA} (m:l.length=n) (h:R.toList.take i=l.take i) (r:n+1<=R.size) (q:i < n):
  (jo (jo R i [u]) (i+1) (l.drop i)).toList.take (n+1)=l.take i++[u]++l.drop i:=by
 have f:=kE [u] R i (by grind);rw[kE (l.drop i) _ (i+1) (by grind[jo]),f,h];have d:∀X:List gG,(l.take i++[u]++X).take (i+1)=l.take i++[u]:=λX=>by grind
 rw[d,LQ (by grind),BG (by grind)]
theorem Vb (K:IK T S F O B z) (base g cap n i bv:Nat) (u:gG) (N:jA) (xs:List gG) (w:gm) (d:w.heap[g]?=some (gz N T)) (a5:N.toList.take n=xs) (au:N.size=cap)
  (ar:n<=cap) (ad:cap < n+1) (hi:i < n) (hv:w.heap[bv]?=some (gz #[u] T)) (hu:u.oneCell'=true) (h1:∀x∈xs,x.oneCell'=true) (aq:n<=1048576) (hb:base<=w.heap.size):
  Calls prog F #[oo g n cap,fV i,oo bv 1 1] w (aav T base (oo g n cap) n i xs u w):=by
 obtain⟨i0,ac,af,ag,a7⟩:=uH K.abP.1;obtain rfl:cap=n:=by omega
 have a4:xs.length=cap:=by rw[<-a5];simp;omega
 obtain⟨_,HU,a6,HZ,HP⟩:=K.abP;have ap:=iQ d;have ax:=iQ hv;have a3:∀j x,xs[j]?=some x->w.cell? ⟨g,j,none⟩=some x:=λj x H=>by
  rw[fN d];grind
 have I:(Builtin.firstCells i0.size i (oo g i cap)).run prog w.drew= .ok (xs.take i).toArray w.drew:=by
  rw[ag];exact run_firstCells_some w.drew 1 i ⟨g,0,none⟩ i cap (xs.take i) (by grind) (λj x H=>by
   rw[jj];rw[FL]at H;simp_all)
 obtain⟨G,hG⟩:∃G,G=grownCap w (cap+1) cap T:=⟨_,rfl⟩;obtain⟨R,hR⟩:∃R:jA,R=(xs.take i).toArray++Builtin.zeroCells z.cells (cap+1 - i)++Builtin.zeroCells z.cells (G - (cap+1)):=⟨_,rfl⟩;obtain⟨q,X⟩:∃q,q=w.drew.alloc (gz R T):=⟨_,rfl⟩;have ae:∀f,(Builtin.append_ #[S,3] f #[oo g i cap,fV ((cap:Int)+1 - (i:Int))]).run prog w= .ok (oo w.heap.size (cap+1) G) q:=λf=>by
  have h:=Lib.run_append_grow_zeros w S 3 f T i0 _ .i64 .i64 HU underlying3 ac af (some ⟨g,0,none⟩) i cap (xs.take i) I (cap+1 - i) (by omega) (by omega) (by omega) (by omega) (by rw[a7];rcases K with⟨_,_,_,_,rfl,_⟩|⟨_,_,_,_,rfl,_⟩<;>omega) (by rw[a7,show i+(cap+1 - i)=cap+1 by omega];rcases K with⟨_,_,_,_,rfl,_⟩|⟨_,_,_,_,rfl,_⟩<;>exact growslice_fits (by omega) (by omega));grind
 have ab:cap+1<=G:=by rw[hG];exact grownCap_ge w _ _ _
 have a8:G<=maxLen:=by rw[hG];exact grownCap_le_maxLen w (cap+1) cap T (by unfold maxLen;omega)
 have a9:R.size=G:=by
  rw[hR];rcases K with⟨_,_,_,_,_,rfl⟩|⟨_,_,_,_,_,rfl⟩<;>simp[Builtin.zeroCells,Value.cells]<;>omega
 have Z:R.toList.take i=xs.take i:=by
  rw[hR];simp only[Array.toList_append,wA];rw[LQ (by grind),BG (by grind)]
 have r:q.heap[w.heap.size]?=some (gz R T):=by rw[X];exact fP w.drew _
 have y:Kept [] w q:=by rw[X];exact(Kept.refl [] w).drew.alloc _
 have a0:=y.at hv (by simp);have aa:=y.at d (by simp);obtain⟨m,D⟩:∃m,m=q.setCells w.heap.size i [u]:=⟨_,rfl⟩;have a1:∀f U,(Builtin.copy_ #[S,S] f #[.slice (some ⟨w.heap.size,i,none⟩) (cap+1 - i) U,oo bv 1 1]).run prog q= .ok (goInt 1) m:=λf U=>by
  rw[D];exact Yb q _ _ f T w.heap.size i (cap+1 - i) U ⟨bv,0,none⟩ 1 1 [u] HU a6 (by grind)
   (λj x H=>by rw[jj,fN a0,<-H];simp)
   (λj H=>by rw[fN r,xP (by grind)];rfl) (λj H=>gh r _) (λx hx=>by grind)
 have s:m.heap[w.heap.size]?=some (gz (jo R i [u]) T):=by rw[D];exact kC [u] q _ R _ _ _ r
 have V:Kept [] w m:=by rw[D];exact Kept.setCells (.inr (gL _)) _ _ y
 have Y:=V.at d (by simp);have a2:∀f U sc,(Builtin.copy_ #[S,S] f #[.slice (some ⟨w.heap.size,i+1,none⟩) (cap - i) U,.slice (some ⟨g,i,none⟩) (cap - i) sc]).run prog m.drew= .ok (goInt (xs.drop i).length) (m.drew.setCells w.heap.size (i+1) (xs.drop i)):=λf U sc=>
  Yb m.drew _ _ f T w.heap.size (i+1) (cap - i) U ⟨g,i,none⟩ (cap - i) sc (xs.drop i) HU a6 (by grind)
   (λj x H=>by
    rw[Addr.add_lit];have h3:=a3 (i+j) x (by grind);rw[fN d]at h3;exact(fN Y _).trans h3)
   (λj H=>by show(m.cell? _).isSome=true;rw[fN s,xP (by grind[jo])];rfl) (λj H=>gh s _) (λx hx=>h1 x (Is hx))
 have HB:=kC (xs.drop i) m.drew w.heap.size _ _ _ (i+1) s;have HK:=Kept.setCells (S:=[]) (a:=w) (b:=w.heap.size) (.inr (gL _)) (xs.drop i) (i+1) V.drew;have HF:=R6 (u:=u) a4 Z (by omega) hi;have az:(cap:Int) < (cap:Int)+1:=by omega
 have ai:¬(G=i):=by omega
 have ah:¬(G=i+1):=by omega
 have an:¬(cap=i):=by omega
 have ay:IntKind.i64.wrap ((i:Int)+1)=(i:Int)+1:=by rw[IntKind.wrap_i64];omega
 have aj:(0:Int)<=(i:Int)+1:=by omega
 have ak:(i:Int)+1<=(cap:Int)+1:=by omega
 have aw:((i:Int)+1).toNat=i+1:=by omega
 have al:(i:Int)<=(cap:Int):=by omega
 clear r y s V X d hv a0 aa Y h1 a3 a5 I hR hG Z D;rcases K with⟨rfl,rfl,rfl,rfl,rfl,rfl⟩|⟨rfl,rfl,rfl,rfl,rfl,rfl⟩
 all_goals
  first|go_enter func378,ntmps378|go_enter func257,ntmps257
  go_wp2_with (first
   |(at_builtin;refine Lib.wpList_append_run _ rfl _ _ _ _ rfl _ _ rfl rfl _ _ (ae _) ?_)
   |(at_builtin;refine wpList_copy_runI _ rfl _ _ _ _ rfl _ _ rfl rfl (a1 _ _) ?_))
  go_region_law (refine step_copy_runI rfl _ _ _ _ rfl (.slice (some ⟨w.heap.size,i+1,none⟩) (cap - i) (G - (i+1))) (.slice (some ⟨g,i,none⟩) (cap - i) (cap - i)) (by simp[Act.eval,Act.put]) (by simp[Act.eval,Act.put]) (a2 _ _ _) ?_)
  go_wp2;go_ret;refine⟨_,rfl,⟨by grind,.inr ⟨w.heap.size,G,_,rfl,hb,HB,ab,a8,by rw[js,js,FM];exact a9,by grind⟩⟩,HK.mono (by simp),.inr ?_⟩;intro k hk;simp[Value.ownBlock]at hk;omega
def agz (K:IK T S F O B z) (base n i h:Nat) (v u:gG) (xs:List gG) (w:gm) (V:w.ownsRow base T 1 v n xs) (N:w.heap[h]?=some (gz #[u] T)) (H:v.ownBlock≠some h) (I:u.oneCell'=true) (R:∀x∈xs,x.oneCell'=true) (hi:i<=n) (m:n<=1048576) (U:base<=w.heap.size):
  Calls prog F #[v,fV i,oo h 1 1] w (aav T base v n i xs u w):=by
 by_cases y:i=n
 .subst y;exact Zg K base i h v u xs w V N I m U
 .rcases V.2 with⟨_,e0⟩|⟨g,cap,r,rfl,s,f,D,Y,q,d⟩
  .omega
  .have X:h≠g:=λe=>H (by rw[e];rfl);rw[FM]at q d;by_cases Z:n+1<=cap
   .exact R7 K base g cap n i h u r xs w s f d q Y Z (by omega) N X I R m
   .exact Vb K base g cap n i h u r xs w f d q D (by omega) (by omega) N I R m U
end
def yb.Y5 (h:yb base b j tB C v xs w) (d:∀x∈xs,uA w x):agY v xs w:=aex h.row d
def yb.nI (h:yb base b j tB C v xs w):v.ownBlock≠some b:=by
 intro d;rcases h.row.2 with⟨e,_⟩|⟨g,cap,f,e,_,m,_⟩
 .rw[e]at d;cases d
 .rw[e]at d;obtain rfl:=jv d;exact yN m h.iw (wB h.ne) rfl
def row_one (xs:kG):∀u∈xs.map ku,u.oneCell'=true:=by
 intro u d;obtain⟨x,_,rfl⟩:=List.mem_map.1 d;rfl
def pg (base b j:Nat) (tB:TypeId) (C:jA) (v:gG) (ys:kG) (w w':gm):Prop:=
 ∃v',yb base b j tB (C.setIfInBounds j v') v' ys w'/\Kept (b::v.ownBlock.toList) w w'/\(v'.ownBlock=v.ownBlock\/∀k,v'.ownBlock=some k->w.heap.size<=k)
def uk (h:C[j]?=some v):j < C.size:=(Array.getElem?_eq_some_iff.1 h).1
def aca (base b j:Nat) (tB:TypeId) (C:jA) (v:gG) (xs:kG) (w:gm) (h:yb base b j tB C v xs w):
  Calls prog 170 #[jG b j] w λe w'=>e=ig (ku (io xs ((xs.length:Int) - 1)))/\w'=w:=by
 have f:=h.at;have d:=h.le;obtain⟨ao,cap,rfl⟩:=gw h.row;have H:=ab9 base b j tB C _ xs ((xs.length:Int) - 1) w h;go_enter func170,ntmps170;go_wp21;refine H.mono ?_;rintro e w' ⟨rfl,rfl⟩;go_wp2;go_ret;simp
theorem agE (base b j:Nat) (tB:TypeId) (C:jA) (v:gG) (xs:kG) (x:iY) (w:gm) (h:yb base b j tB C v xs w) (n:∀x∈xs,uA w x) (y:uA w x):
  Calls prog 313 #[jG b j,ku x] w λe w'=>e=ig (.bool (decide (x∈xs)))/\w'=w:=by
 have D:=h.at;have s:=h.le;have m:Calls prog 340 #[v,ku x] w λe w'=>e=ig (.bool (decide (x∈xs)))/\w'=w:=by
  have H:=Ge v xs x w (h.Y5 n) y h.le;have f:decide (0<=posOf xs x)=decide (x∈xs):=by
   unfold posOf;by_cases I:x∈xs
   .grind
   .grind
  have d:=fM f;clear f;generalize posOf xs x=q at H d;generalize decide (x∈xs)=r at d|-;go_enter func340,ntmps340;go_wp21;refine H.mono ?_;rintro e w' ⟨rfl,rfl⟩;go_wp2;go_ret;exact⟨by rw[<-d.out];rfl,rfl⟩
 obtain⟨ao,cap,rfl⟩:=gw h.row;have H:=m;go_enter func313,ntmps313;go_wp21;refine H.mono ?_;rintro e w' ⟨rfl,rfl⟩;go_wp2;go_ret;simp
def Pn (base b j:Nat) (tB:TypeId) (C:jA) (v:gG) (xs:kG) (x:iY) (w:gm) (h:yb base b j tB C v xs w) (f:∀x∈xs,uA w x) (r:uA w x):
  Calls prog 237 #[jG b j,ku x] w λe w'=>e=ig (ku (io xs (posOf xs x - 1)))/\w'=w:=by
 have s:=h.at;have m:=h.le;have n: -1<=posOf xs x/\posOf xs x<=4096:=by unfold posOf;split<;>omega
 have⟨hp1,hp2⟩:=n;have d:=Ge v xs x w (h.Y5 f) r h.le;obtain⟨ao,cap,rfl⟩:=gw h.row;have H:=ab9 base b j tB C _ xs (posOf xs x - 1) w h;generalize posOf xs x=q at H d hp1 hp2|-;go_enter func237,ntmps237;go_wp21;refine d.mono ?_;rintro e w' ⟨rfl,rfl⟩;go_wp21;refine H.mono ?_;rintro e w' ⟨rfl,rfl⟩;go_wp2;go_ret;simp
theorem acb (base b j:Nat) (tB:TypeId) (C:jA) (v:gG) (xs:kG) (x:iY) (w:gm) (h:yb base b j tB C v xs w) (hl:xs.length < 4096) (hb:base<=w.heap.size):
  Calls prog 262 #[jG b j,ku x] w λe w'=>e=pL/\pg base b j tB C v (xs++[x]) w w':=by
 have⟨i0,hi,hz0,hz1,hz2⟩:=uH ahG;have c1:=h.at;have a0:=h.nI;obtain⟨ao,cap,rfl⟩:=gw h.row;have H:=fM h;clear h;have f:Kept [] w (w.alloc (.cells #[ku x] 65)):=(Kept.refl _ _).alloc _;have o1:=f.ownsRow H.row (λ_ _=>by simp);have b1:=f.at H.iw (by simp);have U:=fP w (gz #[ku x] 65);have I:=fM U;clear U;go_enter func262,ntmps262;go_wp2_with (at_builtin;refine ij _ rfl _ _ 169 rfl base 65 i0 (.pointer none) 1 8 underlying169 hi hz0 hz1 hz2 rfl (by decide) (.slice ao xs.length cap) xs.length (xs.map ku) rfl o1 ⟨w.heap.size,0,none⟩ 1 1 [ku x] rfl rfl (λk u y=>by rw[jj,fN I.out,<-y];simp) (λu y=>by simp at y;subst y;rfl) (by unfold maxLen;omega) (by omega) (by simp;omega) ?_);intro v' D d m N;have R:Kept (Value.slice ao xs.length cap).ownBlock.toList w D:=(f.mono (by simp)).grown m (λk q=> .inl (by grind));have s:D.heap[b]?=some (gz C tB):=R.at H.iw (by grind);have⟨ao',cap',hv⟩:=gw d;subst hv;have d1:D.cell? ⟨b,j,none⟩=some (.slice ao xs.length cap):=by rw[fN s];exact H.cell
 have d2:=gh s j;have V:=fR s j (.slice ao' (xs.length+1) cap');have r:(Value.slice ao' (xs.length+1) cap').ownBlock≠some b:=by
  intro q;rcases d.2 with⟨e,_⟩|⟨g,cap,Z,e,_,hc,_⟩
  .omega
  .rw[e]at q;obtain rfl:=jv q;exact yN hc s (wB H.ne) rfl
 have H4:=rq (a:=⟨b,j,none⟩) d r (.slice ao' (xs.length+1) cap');have X:Kept (b::(Value.slice ao xs.length cap).ownBlock.toList) w (D.setCell ⟨b,j,none⟩ (.slice ao' (xs.length+1) cap')):=(R.mono (λk q _=>nc _ q)).setCell (.inl (by simp)) _;have n:(Value.slice ao' (xs.length+1) cap').ownBlock=(Value.slice ao xs.length cap).ownBlock\/∀k,(Value.slice ao' (xs.length+1) cap').ownBlock=some k->w.heap.size<=k:=by
  rcases N with e|e
  .grind
  .grind
 have Y:=n;go_wp2;go_end0;refine⟨rfl,_,⟨V,?_,?_,H.ne,by grind⟩,X,Y⟩
 .simp[uk H.out.cell]
 grind
theorem agG (base b j:Nat) (tB:TypeId) (C:jA) (v:gG) (xs:kG) (w:gm) (h:yb base b j tB C v xs w):
  Calls prog 175 #[jG b j] w λe w'=>e=ig (ku (io xs ((xs.length:Int) - 1)))/\pg base b j tB C v xs.dropLast w w':=by
 have D:=aca base b j tB C v xs w h;have c1:=h.at;have V:=h.le;have r:=h.nI;obtain⟨ao,cap,rfl⟩:=gw h.row;have Z:xs.length<=cap:=by
  rcases h.row.2 with⟨e,I⟩|⟨g,d,f,e,_,_,q,_⟩
  .omega
  .grind
 obtain⟨m,X⟩:∃m:Nat,m=xs.length - 1:=⟨_,rfl⟩;have Y:max (0:Int) ((xs.length:Int) - 1)=(m:Int):=by omega
 have hf:=gh h.iw j;have H:pg base b j tB C (.slice ao xs.length cap) xs.dropLast w (w.drew.setCell ⟨b,j,none⟩ (.slice ao m cap)):=by
  have hr:(w.drew.setCell ⟨b,j,none⟩ (.slice ao m cap)).ownsRow base 65 1 (.slice ao m cap) xs.dropLast.length (xs.dropLast.map ku):=by
   have s:w.ownsRow base 65 1 (.slice ao m cap) xs.dropLast.length (xs.dropLast.map ku):=by
    refine⟨by simp,?_⟩;rcases h.row.2 with⟨e,I⟩|⟨g,d,f,e,n,N,q,R,U,y⟩
    .grind
    .injection e with e1 e2 e3;refine .inr ⟨g,cap,f,by grind,n,N,by grind,by omega,by omega,?_⟩;rw[FM]at y|-;rw[List.length_dropLast,List.map_dropLast,<-y,adw,Om];grind
   refine rq (a:=⟨b,j,none⟩) (w:=w.drew) s ?_ _;have:(Value.slice ao m cap).ownBlock=(Value.slice ao xs.length cap).ownBlock:=by cases ao<;>rfl
   rw[this];exact r
  refine⟨_,⟨fR (w:=w.drew) h.iw j _,?_,hr,h.ne,by grind⟩,(Kept.refl _ w).drew.setCell (.inl (by simp)) _,.inl (by cases ao<;>rfl)⟩;simp[uk h.cell]
 clear h X;go_enter func175,ntmps175;go_wp21;refine D.mono ?_;rintro e w' ⟨rfl,hw⟩;subst hw;go_wp21;go_region;go_wp2;go_ret;exact⟨rfl,H⟩
def tN (xs:kG) (x:iY):(x∉xs/\posOf xs x= -1)\/∃n:Nat,posOf xs x=n/\n < xs.length/\n=xs.idxOf x/\xs[n]?=some x:=by
 unfold posOf;by_cases f:x∈xs
 .have d:=List.idxOf_lt_length_iff.2 f;rw[gv d];exact .inr ⟨_,rfl,d,rfl,by rw[qs d];simp⟩
 .rw[gH (λd=>f (List.idxOf_lt_length_iff.1 d))];exact .inl ⟨f,rfl⟩
def Ew {n : Nat} (d:n=xs.idxOf x):xs.take n++xs.drop (n+1)=xs.erase x:=by
 rw[<-List.eraseIdx_eq_take_drop_succ,d,List.erase_eq_eraseIdx_of_idxOf rfl]
theorem pg.refl (h:yb base b j tB C v xs w):pg base b j tB C v xs w w:=by
 have e:C.setIfInBounds j v=C:=by
  have:=h.cell;apply Array.ext_getElem?;intro i;by_cases d:j=i
  .grind
  .grind
 exact⟨v,by grind,Kept.refl _ _,.inl rfl⟩
theorem Bb (base b j:Nat) (tB:TypeId) (C:jA) (v:gG) (xs:kG) (x:iY) (w:gm) (h:yb base b j tB C v xs w) (he:∀x∈xs,uA w x) (hx:uA w x):
  Calls prog 178 #[jG b j,ku x] w λe w'=>e=pL/\pg base b j tB C v (xs.erase x) w w':=by
 have c1:=h.at;have I:=Ge v xs x w (h.Y5 he) hx h.le;rcases tN xs x with⟨Z,hp⟩|⟨n,hp,a1,hn,_⟩
 .have HF:=pg.refl h;rw[List.erase_of_not_mem Z];obtain⟨ao,cap,rfl⟩:=gw h.row;rw[hp]at I;clear h;go_enter func178,ntmps178;go_wp2_with fail;refine I.mono ?_;rintro e w' ⟨rfl,hw⟩;subst hw;go_wp2;go_end0;grind
 .have y:=h.nI;have X:=h.le;rcases h.row.2 with⟨_,e0⟩|⟨g,cap,R,rfl,U,r,Y,hm,D,d⟩
  .omega
  rw[FM]at D d;have HD:=ahs g cap n (n+1) xs.length R w r Y D (by omega) (by omega) X (by rw[d];exact row_one xs);rw[show((n+1:Nat):Int)=(n:Int)+1 by omega,show xs.length - (n+1 - n)=xs.length - 1 by omega]at HD;have HN:=fM hn;clear hn;have H:=fM h;have HT:=fM d;rw[hp]at I;clear h d;go_enter func178,ntmps178;go_wp2_with fail;refine I.mono ?_;rintro e w' ⟨rfl,hw⟩;subst hw;go_wp2_with fail;refine HD.mono ?_;rintro e w2 ⟨rfl,q,V,a2,a0,s⟩;have N:=s.at H.iw (by intro m;exact y (by simp at m;rw[m];rfl));have d1:w2.cell? ⟨b,j,none⟩=some (oo g xs.length cap):=by rw[fN N];exact H.cell
  have d2:=gh N j;have H3:=fR N j (oo g (xs.length - 1) cap);have f:(xs.erase x).length=xs.length - 1:=by rw[<-Ew HN.out];simp;omega
  have r2:w2.ownsRow base 65 1 (oo g (xs.length - 1) cap) (xs.erase x).length ((xs.erase x).map ku):=by
   refine⟨by simp,.inr ⟨g,cap,q,by rw[f],U,V,by omega,hm,by omega,?_⟩⟩;rw[FM,f,a0,HT.out,<-Ew HN.out,se,List.map_take,List.map_drop]
  have H4:=rq (a:=⟨b,j,none⟩) r2 y (oo g (xs.length - 1) cap);have H5:Kept (b::(oo g xs.length cap).ownBlock.toList) w' (w2.setCell ⟨b,j,none⟩ (oo g (xs.length - 1) cap)):=(s.mono (λk hk _=>by simp at hk;subst hk;simp[Value.ownBlock])).setCell (.inl (by simp)) _;have HL:=fM f;clear f;go_wp2;go_end0;exact⟨rfl,_,⟨H3,by simp[uk H.out.cell],H4,H.ne,by grind⟩,H5,.inl rfl⟩
def qo (xs:kG) (x y:iY):kG:=if x∈xs then xs.set (xs.idxOf x) y else xs
def ja (xs:kG) (x y:iY):kG:=if x∈xs then xs.take (xs.idxOf x+1)++[y]++xs.drop (xs.idxOf x+1)else xs
def oh (xs:kG) (x:iY):kG:=((xs.reverse.dropWhile (·≠x)).tail).reverse
theorem pg.trans {ys m : kG} {h : gm}
  (q:yb base b j tB (C.setIfInBounds j v') v' ys w1) (f:Kept (b::v.ownBlock.toList) w w1) (r:v'.ownBlock=v.ownBlock\/∀k,v'.ownBlock=some k->w.heap.size<=k)
  (n:pg base b j tB (C.setIfInBounds j v') v' m w1 h):pg base b j tB C v m w h:=by
 have⟨v2,L2,k2,f2⟩:=n;refine⟨v2,by simp_all,f.next k2 ?_,?_⟩
 .grind
 .rcases f2 with e|e
  .grind
  .exact .inr λk d=>jH f.size (e k d)
def Gj (base b j:Nat) (tB:TypeId) (C:jA) (v:gG) (xs:kG) (x y:iY) (w:gm) (h:yb base b j tB C v xs w) (he:∀x∈xs,uA w x) (hx:uA w x):
  Calls prog 267 #[jG b j,ku x,ku y] w λe w'=>e=pL/\pg base b j tB C v (qo xs x y) w w':=by
 have c1:=h.at;have r:=Ge v xs x w (h.Y5 he) hx h.le;rcases tN xs x with⟨U,X⟩|⟨n,X,a0,N,HX⟩;have Z:=pg.refl h;have Y:qo xs x y=xs:=by unfold qo;rw[gH U]
 rw[Y];obtain⟨ao,cap,rfl⟩:=gw h.row;rw[X]at r
 rotate_left
 have V:=h.nI;have I:=h.le;have Y:qo xs x y=xs.set n y:=by unfold qo;rw[gv (tR HX),<-N]
 rw[Y];rcases h.row.2 with⟨_,e0⟩|⟨g,cap,m,rfl,D,d,R,hm,q,f⟩
 .omega
 rw[FM]at q f;have H:g≠b:=λe=>V (by rw[e];rfl);have d1:∃u,w.cell? ⟨g,n,none⟩=some u:=⟨m[n]'(by omega),by rw[fN d];simp⟩;have⟨u,d1⟩:=d1;have d2:=gh d n;have Z:pg base b j tB C (oo g xs.length cap) (xs.set n y) w (w.setCell ⟨g,n,none⟩ (ku y)):=by
  have s:(w.setCell ⟨g,n,none⟩ (ku y)).heap[b]?=some (gz C tB):=by rw[Below.heap_setCell w ⟨g,n,none⟩ _ b (wB H)];exact h.iw
  have L2:yb base b j tB C (oo g xs.length cap) (xs.set n y) (w.setCell ⟨g,n,none⟩ (ku y)):=by
   refine⟨s,h.cell,⟨by simp,.inr ⟨g,cap,_,by simp,D,fR d n (ku y),by simpa using R,hm,by simpa using q,?_⟩⟩,h.ne,by simpa using I⟩;have:(m.setIfInBounds n (ku y)).toList=m.toList.set n (ku y):=by simp
   rw[this,List.length_set,FM,List.take_set,f,List.map_set]
  have⟨v',L',k',f'⟩:=pg.refl L2;exact⟨v',L',(((Kept.refl _ w).setCell (p:=⟨g,n,none⟩) (.inl (by simp[Value.ownBlock])) _).trans k'),by simpa using f'⟩
 have HN:=fM N;rw[X]at r;clear N
 all_goals
  go_enter func267,ntmps267;go_wp21;refine r.mono ?_;rintro e w' ⟨rfl,hw⟩;subst hw;go_wp2;go_end0;exact⟨rfl,Z⟩
theorem H8 (base b j:Nat) (tB:TypeId) (C:jA) (v:gG) (xs:kG) (x y:iY) (w:gm) (h:yb base b j tB C v xs w) (he:∀x∈xs,uA w x) (hx:uA w x) (hl:xs.length < 4096) (hb:base<=w.heap.size):
  Calls prog 367 #[jG b j,ku x,ku y] w λe w'=>e=pL/\pg base b j tB C v (ja xs x y) w w':=by
 have c1:=h.at;have r:=Ge v xs x w (h.Y5 he) hx h.le;rcases tN xs x with⟨V,Y⟩|⟨n,Y,a4,U,HX⟩
 .have D:=pg.refl h;have Z:ja xs x y=xs:=by unfold ja;rw[gH V]
  rw[Z];obtain⟨ao,cap,rfl⟩:=gw h.row;rw[Y]at r;clear h;go_enter func367,ntmps367;go_wp21;refine r.mono ?_;rintro e w' ⟨rfl,hw⟩;subst hw;go_wp2;go_end0;exact⟨rfl,D⟩
 .have X:=h.nI;have a3:=h.le;have Z:ja xs x y=xs.take (n+1)++[y]++xs.drop (n+1):=by unfold ja;rw[gv (tR HX),<-U]
  rw[Z];have d:Kept [] w (w.alloc (.cells #[ku y] 65)):=(Kept.refl _ _).alloc _;have v1:=fP w (gz #[ku y] 65);have a1:(w.alloc (gz #[ku y] 65)).heap.size=w.heap.size+1:=by simp
  have a5:=h.row.lt;have HD:=agz (.inl ⟨rfl,rfl,rfl,rfl,rfl,rfl⟩) base xs.length (n+1) w.heap.size v (ku y) (xs.map ku) (w.alloc (gz #[ku y] 65)) (d.ownsRow h.row (λ_ _=>by simp)) v1 (λe=>by grind) rfl (row_one xs) (by omega) (by omega) (by omega);rw[show((n+1:Nat):Int)=(n:Int)+1 by omega]at HD;have a0:=d.at h.iw (by simp);obtain⟨ao,cap,rfl⟩:=gw h.row;have H:=fM h;have HN:=fM U;rw[Y]at r;clear h U;go_enter func367,ntmps367;go_wp21;refine r.mono ?_;rintro e w' ⟨rfl,hw⟩;subst hw;go_wp21;refine HD.mono ?_;rintro e s ⟨v',rfl,f,R,N⟩;have⟨ao',cap',hv⟩:=gw f;subst hv;have K2:Kept (Value.slice ao xs.length cap).ownBlock.toList w' s:=(d.mono (by simp)).trans (S:=(Value.slice ao xs.length cap).ownBlock.toList) R;have I:s.heap[b]?=some (gz C tB):=K2.at H.iw (by simpa using X);have d1:s.cell? ⟨b,j,none⟩=some (.slice ao xs.length cap):=by rw[fN I];exact H.cell
  have d2:=gh I j;have H3:=fR I j (.slice ao' (xs.length+1) cap');have q:(Value.slice ao' (xs.length+1) cap').ownBlock≠some b:=by
   intro hk;rcases f.2 with⟨e,_⟩|⟨g,cap,a2,e,_,hc,_⟩
   .omega
   .grind
  have H4:=rq (a:=⟨b,j,none⟩) f q (.slice ao' (xs.length+1) cap');have H5:Kept (b::(Value.slice ao xs.length cap).ownBlock.toList) w' (s.setCell ⟨b,j,none⟩ (.slice ao' (xs.length+1) cap')):=(K2.mono (λk hk _=>nc _ hk)).setCell (.inl (by simp)) _;have m:(Value.slice ao' (xs.length+1) cap').ownBlock=(Value.slice ao xs.length cap).ownBlock\/∀k,(Value.slice ao' (xs.length+1) cap').ownBlock=some k->w'.heap.size<=k:=by
   rcases N with e|e
   .exact .inl e
   .grind
  have D:=m;go_wp2;go_end0;refine⟨rfl,_,⟨H3,by simp[uk H.out.cell],?_,H.ne,by simp;omega⟩,H5,D⟩;have e1:(xs.take (n+1)++[y]++xs.drop (n+1)).length=xs.length+1:=by simp;omega
  simp_all
def ZF (x:iY):oh [] x=[]:=rfl
theorem VB (xs:kG) (y x:iY):oh (xs++[y]) x=if y=x then xs else oh xs x:=by
 unfold oh;rw[Yc];by_cases h:y=x
 all_goals simp_all
theorem Ki (xs:kG) (y:iY):io (xs++[y]) (((xs++[y]).length:Int) - 1)=y:=by
 unfold io;rw[gv (by grind)];simp
def Bc (a:Addr) (w:gm):Nat:=match w.cell? a with
 |some (.slice _ n _)=>n
 |_=>0
def yb.Bc (h:yb base b j tB C v xs w):Bc ⟨b,j,none⟩ w=xs.length:=by
 obtain⟨ao,cap,rfl⟩:=gw h.row;unfold YthcohfdidcdchaaGreatDoor.Bc;rw[h.at]
def uA.kept (h:uA w x) (m:Kept S w w') (f:∀k,x=some k->k∉S):uA w' x:=by
 intro k d;have⟨c,hc⟩:=h k d;exact⟨c,m.at hc (f k d)⟩
theorem J0 (h:yb base b j tB C v xs w) (n:tB≠135) (r:uA w x):∀k,x=some k->k∉b::v.ownBlock.toList:=by
 intro k q d;have⟨c,hc⟩:=r k q;rcases List.mem_cons.1 d with rfl|d
 .exact yN h.iw hc n rfl
 .rcases h.row.2 with⟨e,_⟩|⟨g,cap,m,e,_,f,_⟩
  .rw[e]at d;simp[Value.ownBlock]at d
  .rw[e]at d;simp[Value.ownBlock]at d;grind
theorem Xn (base b j:Nat) (tB:TypeId) (C:jA) (v:gG) (xs:kG) (x:iY) (w:gm) (h:yb base b j tB C v xs w) (hB:tB≠135) (he:∀x∈xs,uA w x) (hx:uA w x):
  Calls prog 319 #[jG b j,ku x] w λe w'=>e=pL/\pg base b j tB C v (oh xs x) w w':=by
 have h0:=pg.refl h;have hE:=he;have hX:=hx;have hO:=(λy hy=>J0 h hB (he y hy));have X:=J0 h hB hx;go_enter func319,ntmps319;go_wp2
 go_loopw [9] (λ_ wr=>∃n,(∀y∈n,y∈xs)/\oh n x=oh xs x/\pg base b j tB C v n w wr) (λ_ wr=>Bc ⟨b,j,none⟩ wr)
 case atStart=>grind
 case round=>
  have⟨n,hS,hpt,v',L1,k1,f1⟩:=hrel;have s:=L1.Bc;have V:=L1.at;have⟨ao,cap,hv⟩:=gw L1.row;have Y:n=[]\/∃f y,n=f++[y]:=by
   rcases adx n with h|⟨f,y,h⟩
   .grind
   .grind
  rcases Y with rfl|⟨f,y,rfl⟩
  .rw[hv]at V;have N:=(show pg base b j tB C v (oh xs x) w wr from⟨v',by rw[<-hpt,ZF];exact L1,k1,f1⟩);clear L1 s;go_wp2;go_end0;grind
  .rw[hv]at V;have r:0 < (f++[y]).length:=by simp
   have HP:=agG base b j tB _ v' _ wr L1;rw[Ki]at HP;have HY:uA w y:=hE y (hS y (by simp));have R:=hO y (hS y (by simp));have HT:=(λ(H:gm) (h2:pg base b j tB (C.setIfInBounds j v') v' (f++[y]).dropLast wr H)=>pg.trans L1 k1 f1 h2);have HL:=fM L1;have hq:=fM (show oh xs x=if y=x then f else oh f x by rw[<-hpt,VB]);have D:=fM s;obtain⟨m,I⟩:∃m,m=(f++[y]).length:=⟨_,rfl⟩;rw[<-I]at V r D;have HM:=fM I;have a1:m<=4096:=by rw[I];exact L1.le
   clear L1 s I;go_wp21;refine HP.mono ?_;rintro e H ⟨rfl,Z⟩;have T2:=HT H Z;rw[T9]at T2;have⟨v2,L2,k2,f2⟩:=T2;have q:=Ds (HY.kept k2 R) (hX.kept k2 X);have a0:=fM L2.Bc;by_cases d:y=x
   .rw[vQ d]at q;have N:=(show pg base b j tB C v (oh xs x) w H from⟨v2,by rw[hq.out,gv d];exact L2,k2,f2⟩);clear L2 d;go_wp2
    (try simp only[Exit.inBlock,Exit.then])
    refine ou (Iv rfl _ _ _) rfl ?_;grind
   .rw[wy d]at q;have N:=(show pg base b j tB C v f w H from⟨v2,L2,k2,f2⟩);have U:=fM d;clear L2 d;go_wp2;go_roundw
    case rel=>exact⟨f,λz s=>hS z (by simp[s]),by rw[hq.out,gH U.out],N⟩
    case measure=>rw[a0.out,D.out,HM.out];simp
attribute [local go_sem] Oper.semAt_some
def kL (K:List Nat) (W W':gm):Prop:=∀k∈K,W'.heap[k]?=W.heap[k]?
def kL.refl (K:List Nat) (W:gm):kL K W W:=λ_ _=>rfl
def kL.trans {C : gm} (h:kL K A B) (k:kL K B C):kL K A C:=λx d=>(k x d).trans (h x d)
def kL.jL (h:Kept S W W') (d:∀k∈K,k < W.heap.size/\k∉S):kL K W W':=λk f=>h.block k (d k f).1 (d k f).2
theorem kL.put (f:∀k∈K,k < w.heap.size) (W:gm) (l:Nat) (o d:Obj) (m:w.heap.size<=l) (_:W.heap[l]?=some o) (_:o.isCells=false) (_:o.isWalk=false):kL K W (W.putObj l d):=
 λk h=>sg (by grind)
theorem yb.Gi (h:yb base b j tB C v xs w) (m:kL K w w') (n:b∈K) (s:∀k,v.ownBlock=some k->k∈K):yb base b j tB C v xs w':=by
 refine⟨(m b n).trans h.iw,h.cell,⟨h.row.1,?_⟩,h.ne,h.le⟩;rcases h.row.2 with e|⟨g,cap,d,e,f,q,r⟩
 .grind
 .exact .inr ⟨g,cap,d,e,f,(m g (s g (by rw[e];rfl))).trans q,r⟩
theorem aio (m:Nat) (a7:1<=m) (base b j:Nat) (tB:TypeId) (C:jA) (v:gG) (xs:kG) (n bN H l:Nat) (K:List Nat) (J Jx:List {x:iY // x∈xs}->gm->Prop)
  (hn:n<=xs.length) (a2:b∈K) (a1:H∈K) (a3:∀k,v.ownBlock=some k->k∈K)
  (hY:∀pre x W,J pre W->pre.length < n->YieldAt Fence.wide (m - 1) prog l #[ku x.1] W λe W'=>
   (e=ig (.bool true)/\J (pre++[x]) W'/\kL K W W')\/(e=ig (.bool false)/\Jx (pre++[x]) W'))
  (W:gm) (h:yb base b j tB C v xs W) (hN:W.cell? ⟨bN,0,none⟩=some (fV n)) (hL:W.cell? ⟨H,0,none⟩=some (jG b j)) (h0:J [] W):
  CallsIn Fence.wide m prog 348 #[.func (.yield l) #[] #[],gE bN,gE H] W λe W'=>(∃r,e=ig r)/\
   ((∃ys,ys.map (·.1)=(xs.take n).reverse/\J ys W')\/(∃pre,pre.map (·.1) <+:(xs.take n).reverse/\Jx pre W')):=by
 refine callsIn_of_wp func348 rfl trivial ?_ rfl;simp only[ntmps348,xQ,rn,uI,Nat.reduceAdd,Nat.reduceSub,xR,xS,xU,xV,rp,tU];have a5:=h.le;have HL:=fM h;clear h;have HY:=fM hY;clear hY;gi_wp2
 gi_loopw [4] (λi wr=>∃(k:Nat) (pre:List {x:iY // x∈xs}),k<=n/\pre.length=k/\i=fV ((n:Int) - 1 - k)/\pre.map (·.1)=(xs.take n).reverse.take k/\kL K W wr/\J pre wr)
  (λi _=>((intOf i)+1).toNat)
 case atStart=>grind[kL]
 case round=>
  obtain⟨k,pre,hk,a8,rfl,D,f,hJ⟩:=hrel;have L1:=HL.out.Gi f a2 a3;have cL:wr.cell? ⟨H,0,none⟩=some (jG b j):=(adv (w:=W) (f H a1)).trans hL;have HP:=fM D;have Y:=fM f;clear D f;by_cases a6:k < n
  .obtain⟨q,hq⟩:∃q:Nat,q=n - 1 - k:=⟨_,rfl⟩;have U:(n:Int) - 1 - k=(q:Int):=by omega
   have s:q < xs.length:=by omega
   rw[U];have hA:=ab9 base b j tB C v xs (q:Int) wr L1;have hg:io xs (q:Int)=xs[q]:=by unfold io;rw[gv (by omega)];simp[s]
   rw[hg]at hA;have HA:=fM hA;have⟨fn,tmps,assign,body,hy,hR⟩:=HY.out pre ⟨xs[q],uG s⟩ wr hJ (by omega);dsimp only at hy;have d:(pre++[(⟨xs[q],uG s⟩:{x:iY // x∈xs})]).map (·.1)=(xs.take n).reverse.take (k+1):=by
    have R:(xs.take n).length=n:=by simp;omega
    have e1:(xs.take n).reverse[k]?=some xs[q]:=by
     rw[Ua (by omega),R,FL,gv (by omega),show n - 1 - k=q from hq.symm,qs s]
    rw[se,HP.out,FP,e1];rfl
   have HS:=fM d;have HR:=fM hR;have HQ:=fM hq;clear hA hg d hR L1 hq U
   gi_wp2_with (refine⟨trivial,?_⟩;gi_at_call 239;refine(callsIn_wide.2 HA.out).mono ?_;rintro e w' ⟨rfl,rfl⟩)
   refine HR.out.mono ?_;rintro e W3 (⟨rfl,a0,N⟩|⟨rfl,I⟩)
   .have X:=fM (Y.out.trans N);clear N;gi_wp2;go_roundw
    case rel=>exact⟨k+1,_,by omega,by grind,by have:=HQ.out;grind,HS.out,X.out,a0⟩
    case measure=>simp[intOf]
   .gi_wp2;refine ou (Iv rfl _ _ _) rfl ?_;refine⟨⟨_,rfl⟩,.inr ⟨_,?_,I⟩⟩;rw[HS.out];exact List.take_prefix _ _
  .have a4:k=n:=by omega
   have V:pre.map (·.1)=(xs.take n).reverse:=by
    rw[HP.out,BG (by grind)]
   have Z:=fM V;have y:(n:Int) - 1 - k= -1:=by omega
   rw[y];clear V a4 y;gi_wp2;go_end0;exact⟨⟨_,rfl⟩,.inl ⟨pre,Z.out,hJ⟩⟩
abbrev mP (b j:Nat) (n:Int) (w:gm):gm:=(w.alloc (gz #[jG b j] 274)).alloc (gz #[fV n] 3)
abbrev vO (s:Nat):gG:= .func (.func 348) #[] #[gE (s+1),gE s]
def Ok (b j:Nat) (n:Int) (w:gm):
  Calls prog 321 #[jG b j,fV n] w λe w'=>e=ig (vO w.heap.size)/\w'=mP b j n w:=by
 go_enter func321,ntmps321;go_wp2;go_ret;simp
def Zn (base b j:Nat) (tB:TypeId) (C:jA) (v:gG) (xs:kG) (w:gm) (h:yb base b j tB C v xs w):
  Calls prog 285 #[jG b j] w λe w'=>e=ig (vO w.heap.size)/\w'=mP b j xs.length w:=by
 have m:=h.at;obtain⟨ao,cap,rfl⟩:=gw h.row;have H:=Ok b j xs.length w;go_enter func285,ntmps285;go_wp21;refine H.mono ?_;rintro e w' ⟨rfl,d⟩;have f:=fM d;clear d;go_wp2;go_ret;exact⟨rfl,f⟩
def aeR (base b j:Nat) (tB:TypeId) (C:jA) (v:gG) (xs:kG) (x:iY) (w:gm) (h:yb base b j tB C v xs w) (n:∀x∈xs,uA w x) (r:uA w x):
  Calls prog 376 #[jG b j,ku x] w λe w'=>e=ig (vO w.heap.size)/\w'=mP b j (posOf xs x) w:=by
 have s:=h.at;have f:=Ge v xs x w (h.Y5 n) r h.le;obtain⟨ao,cap,rfl⟩:=gw h.row;have H:=Ok b j (posOf xs x) w;generalize posOf xs x=q at H f|-;go_enter func376,ntmps376;go_wp21;refine f.mono ?_;rintro e w' ⟨rfl,d⟩;subst d;go_wp21;refine H.mono ?_;rintro e w' ⟨rfl,d⟩;have m:=fM d;clear d;go_wp2;go_ret;exact⟨rfl,m⟩
theorem TU (m:Nat) (I:1<=m) (base b j:Nat) (tB:TypeId) (C:jA) (v:gG) (xs:kG) (n s:Nat) (K:List Nat) (w:gm)
  (h:yb base b j tB C v xs w) (Z:n<=xs.length) (r:b∈K) (q:s∈K) (y:∀k,v.ownBlock=some k->k∈K) (H:s+1 < w.heap.size)
  (X:w.heap[s+1]?=some (gz #[fV n] 3)) (V:w.heap[s]?=some (gz #[jG b j] 274)):
  SeqStopsK Fence.wide m prog 348 #[gE (s+1),gE s] (λx:{x:iY // x∈xs}=>#[ku x.1]) (kL K)
   (λys=>ys.map (·.1)=(xs.take n).reverse) (λpre=>pre.map (·.1) <+:(xs.take n).reverse) n w:=by
 intro l J N W f _ _ Y U;have D:=iQ h.iw;have R:yb base b j tB C v xs W:=by
  refine h.Gi (K:=b::v.ownBlock.toList) (λk d=>f.block k ?_) (by simp) (λk d=>by simp[d]);rcases List.mem_cons.1 d with rfl|d
  .exact D
  .exact(h.row.lt k (by grind)).2
 exact aio m I base b j tB C v xs n (s+1) s l K J N Z r q y Y W R (by rw[fN ((f.block _ H).trans X)];rfl) (by rw[fN ((f.block _ (by omega)).trans V)];rfl) U
def kJ (a b:fY):Bool:=a.toList==b.toList
def yh {a b : fY}:kJ a b=true↔a=b:=by
 unfold kJ;rw[sK,sK,beq_iff_eq];exact⟨λh=>WideShapes.bytes_inj h,λh=>by rw[h]⟩
def abv {a b : fY}:kJ a b=false↔a≠b:=by rw[Ne,<-yh];simp
def gZ (d:List fY) (x:fY):Bool:=d.any (kJ x)
def SM (d:List fY) (s:fY):Int:=if d.findIdx (kJ s) < d.length then (d.findIdx (kJ s):Int)else -1
theorem afl {xs : List fY} {x : fY} (q:k < xs.length) (m:xs[k]=x) (h:∀j,j < k->xs[j]?≠some x):SM xs x=k:=by
 have s:xs.findIdx (kJ x)=k:=by
  have f:xs.findIdx (kJ x) < xs.length:=ady ⟨x,m▸uG q,yh.2 rfl⟩;have n:¬xs.findIdx (kJ x) < k:=λd=>h _ d (by
   rw[qs f];exact si some (yh.1 (List.findIdx_getElem (w:=f))).symm)
  have r:¬k < xs.findIdx (kJ x):=λd=>by
   have:=List.not_of_lt_findIdx d;rw[m]at this;exact absurd (yh.2 rfl) (by simpa using this)
  omega
 grind[SM]
def afm {xs : List fY} {x : fY} (d:∀j,j < xs.length->xs[j]?≠some x):SM xs x= -1:=by
 unfold SM;rw[gH];intro h;exact d _ h (by rw[qs h];exact si some (yh.1 (List.findIdx_getElem (w:=h))).symm)
theorem acH (xs:List fY) (x:fY):decide (0<=SM xs x)=gZ xs x:=by
 grind[SM,gZ]
theorem aeG (g cap:Nat) (d:List fY) (x:fY) (w:gm) (H:∀k,(U:k < d.length)->w.cell? ⟨g,k,none⟩=some (gu d[k])) (V:d.length<=4096):
  Calls prog 320 #[oo g d.length cap,gu x] w λe w'=>e=ig (fV (SM d x))/\w'=w:=by
 have I:=fM H;clear H;go_enter func320,ntmps320;go_wp2
 go_loopw [8] (λi wr=>∃k:Nat,k<=d.length/\i=fV k/\wr=w/\∀j,j < k->d[j]?≠some x) (λi _=>d.length - (intOf i).toNat)
 case atStart=>grind
 case round=>
  obtain⟨k,U,rfl,rfl,s⟩:=hrel;by_cases f:k < d.length
  .have N:=I k f;obtain⟨y,r⟩:∃y,y=d[k]:=⟨_,rfl⟩;rw[<-r]at N;have D:=fM r;clear r;by_cases m:x=y
   .have q:=fM (afl f (D.symm.trans m.symm) s);subst m;go_wp2;go_ret;exact⟨by rw[q.out];rfl,rfl⟩
   .have n:=m;have X:(x.toList==y.toList)=false:=abv.2 m;go_wp2;go_roundw
    case rel=>
     refine⟨k+1,by omega,by go_num,by simp,λj R=>?_⟩;by_cases e:j=k
     .subst e;rw[qs f];exact λh=>n ((jv h).symm.trans D.symm)
     grind
    case measure=>simp[intOf];omega
  .have q:=fM (afm (xs:=d) (x:=x) (λj R=>s j (by omega)));go_wp2;go_ret;exact⟨by rw[q.out];rfl,rfl⟩
def OU (g cap:Nat) (d:List fY) (x:fY) (w:gm) (m:∀k,(hk:k < d.length)->w.cell? ⟨g,k,none⟩=some (gu d[k])) (h:d.length<=4096):
  Calls prog 283 #[oo g d.length cap,gu x] w λe w'=>e=ig (.bool (gZ d x))/\w'=w:=by
 have H:=aeG g cap d x w m h;have f:=fM (acH d x);generalize SM d x=q at H f;generalize gZ d x=r at f|-;go_enter func283,ntmps283;go_wp21;refine H.mono ?_;rintro e w' ⟨rfl,rfl⟩;go_wp2;go_ret;exact⟨by rw[<-f.out];rfl,rfl⟩
structure oB (E:List Nat) (v:gG) (p:fY->Bool) (w:gm):Prop where
 ex:∃k lb,v= .func (.func k) #[] lb/\Enters prog k/\∀W,kL E w W->∀s,Calls prog k (#[gu s]++lb) W λe W'=>e=ig (.bool (p s))/\W'=W
 lt:∀e∈E,e < w.heap.size
def oB.keeps (h:oB E v p w) (q:kL E w w') (y:w.heap.size<=w'.heap.size):oB E v p w':=by
 obtain⟨⟨k,D,rfl,n,m⟩,r⟩:=h;exact⟨⟨k,D,rfl,n,λW f s=>m W (q.trans f) s⟩,λe d=>lU (r e d) y⟩
def oB.kept (h:oB E v p w) (f:Kept S w w') (m:∀e∈E,e∉S):oB E v p w':=
 h.keeps (kL.jL f λk d=>⟨h.lt k d,m k d⟩) f.size
def oB.ib (h:oB E v p w) (d:Kept [] w w'):oB E v p w':=h.kept d (λ_ _=>by simp)
def oK (h:kL E w W) (d:b∈E) (f:w.heap[b]?=some (gz c t)):W.heap[b]?=some (gz c t):=(h b d).trans f
theorem abW (bs g cap:Nat) (d:List fY) (w:gm) (n:w.heap[bs]?=some (gz #[oo g d.length cap] 199)) (q:w.heap[g]?=some (gz (d.map Value.string).toArray 9)) (f:d.length<=4096):
  oB [bs,g] (.func (.func 282) #[] #[gE bs]) (gZ d) w:=by
 refine⟨⟨_,_,rfl,enters_of func282 (by rfl) rfl,λW h s=>?_⟩,λe y=>?_⟩
 .have m:=fN (oK h (by simp) n) 0;dsimp at m;have H:=OU g cap d s W (λk D=>by rw[fN (oK h (by simp) q)];simp) f;show Calls prog 282 #[gu s,gE bs] W _;generalize gZ d s=r at H|-;go_enter func282,ntmps282;go_wp21;refine H.mono ?_;rintro e w' ⟨rfl,rfl⟩;go_wp2;go_ret;simp
 grind
def agA (g cap:Nat) (n:Nat) (w:gm):
  Calls prog 216 #[oo g n cap] w λe w'=>e=ig (.func (.func 282) #[] #[gE w.heap.size])/\w'=w.alloc (gz #[oo g n cap] 199):=by
 go_enter func216,ntmps216;go_wp2;go_ret;simp
def kL.sub {K' : List Nat} (h:kL K A B) (f:∀k∈K',k∈K):kL K' A B:=λk d=>h k (f k d)
theorem ah7 (m n:Nat) (I N:List Nat) (v1 v2:gG) (p q:fY->Bool) (w:gm) (h1:w.heap[m]?=some (gz #[v1] 84)) (h2:w.heap[n]?=some (gz #[v2] 84)) (R:oB I v1 p w) (U:oB N v2 q w):
  oB (m::n::(I++N)) (.func (.func 290) #[] #[gE m,gE n]) (λs=>p s||q s) w:=by
 refine⟨⟨_,_,rfl,enters_of func290 (by rfl) rfl,λW y s=>?_⟩,λe f=>?_⟩
 .have c1:=fN (oK y (by simp) h1) 0;have c2:=fN (oK y (by simp) h2) 0;dsimp at c1 c2;obtain⟨V,a0,rfl,e1,Y⟩:=R.ex;obtain⟨X,a3,rfl,e2,Z⟩:=U.ex;have h:=Y W (y.sub (λk D=>by simp[D])) s;have H:=Z W (y.sub (λk D=>by simp[D])) s;have f1:∀d w,(callFunc V d).run prog w= .ok (.enter V d) w:=e1;have f2:∀d w,(callFunc X d).run prog w= .ok (.enter X d) w:=e2;show Calls prog 290 #[gu s,gE m,gE n] W _;cases hps:p s with
  |true=>
   rw[hps]at h;go_enter func290,ntmps290;go_wp21;refine h.mono ?_;rintro e w' ⟨rfl,rfl⟩;go_wp2;go_ret;simp
  |false=>
   rw[hps]at h;generalize q s=r at H|-;go_enter func290,ntmps290;go_wp21;refine h.mono ?_;rintro e w' ⟨rfl,rfl⟩;go_wp21;refine H.mono ?_;rintro e w' ⟨rfl,rfl⟩;go_wp2;go_ret;simp
 .simp at f;rcases f with rfl|rfl|f|f
  .grind
  .grind
  .exact R.lt e f
  .exact U.lt e f
theorem aea (m n:Nat) (I N:List Nat) (v1 v2:gG) (p q:fY->Bool) (w:gm) (h1:w.heap[m]?=some (gz #[v1] 84)) (h2:w.heap[n]?=some (gz #[v2] 84)) (R:oB I v1 p w) (U:oB N v2 q w):
  oB (m::n::(I++N)) (.func (.func 315) #[] #[gE m,gE n]) (λs=>p s&&!q s) w:=by
 refine⟨⟨_,_,rfl,enters_of func315 (by rfl) rfl,λW y s=>?_⟩,λe f=>?_⟩
 .have c1:=fN (oK y (by simp) h1) 0;have c2:=fN (oK y (by simp) h2) 0;dsimp at c1 c2;obtain⟨V,a0,rfl,e1,Y⟩:=R.ex;obtain⟨X,a3,rfl,e2,Z⟩:=U.ex;have h:=Y W (y.sub (λk D=>by simp[D])) s;have H:=Z W (y.sub (λk D=>by simp[D])) s;have f1:∀d w,(callFunc V d).run prog w= .ok (.enter V d) w:=e1;have f2:∀d w,(callFunc X d).run prog w= .ok (.enter X d) w:=e2;show Calls prog 315 #[gu s,gE m,gE n] W _;cases hps:p s with
  |true=>
   rw[hps]at h;generalize q s=r at H|-;go_enter func315,ntmps315;go_wp21;refine h.mono ?_;rintro e w' ⟨rfl,rfl⟩;go_wp21;refine H.mono ?_;rintro e w' ⟨rfl,rfl⟩;go_wp2;go_ret;simp
  |false=>
   rw[hps]at h;go_enter func315,ntmps315;go_wp21;refine h.mono ?_;rintro e w' ⟨rfl,rfl⟩;go_wp2;go_ret;simp
 .simp at f;rcases f with rfl|rfl|f|f
  .grind
  .grind
  .exact R.lt e f
  .exact U.lt e f
theorem ae3 (f:Nat) (n:List Nat) (v1:gG) (p:fY->Bool) (w:gm) (N:w.heap[f]?=some (gz #[v1] 84)) (y:oB n v1 p w):
  oB (f::n) (.func (.func 289) #[] #[gE f]) (λs=>!p s) w:=by
 refine⟨⟨_,_,rfl,enters_of func289 (by rfl) rfl,λW q s=>?_⟩,λe h=>?_⟩
 .have I:=fN (oK q (by simp) N) 0;dsimp at I;obtain⟨D,U,rfl,e1,H⟩:=y.ex;have m:=H W (q.sub (λk R=>by simp[R])) s;have V:∀d w,(callFunc D d).run prog w= .ok (.enter D d) w:=e1;show Calls prog 289 #[gu s,gE f] W _;generalize p s=r at m|-;go_enter func289,ntmps289;go_wp21;refine m.mono ?_;rintro e w' ⟨rfl,rfl⟩;go_wp2;go_ret;simp
 .simp at h;rcases h with rfl|h
  .grind
  .exact y.lt e h
def aff (f m:List Nat) (v1 v2:gG) (p q:fY->Bool) (w:gm) (r:oB f v1 p w) (y:oB m v2 q w):
  Calls prog 236 #[v1,v2] w λe w'=>(∃v,e=ig v/\oB (w.heap.size::(w.heap.size+1)::(f++m)) v (λs=>p s||q s) w'/\w'.heap[w.heap.size]?=some (gz #[v1] 84)/\w'.heap[w.heap.size+1]?=some (gz #[v2] 84))/\Kept [] w w':=by
 have h:Calls prog 236 #[v1,v2] w λe w'=>e=ig (.func (.func 290) #[] #[gE w.heap.size,gE (w.heap.size+1)])/\w'=(w.alloc (gz #[v1] 84)).alloc (gz #[v2] 84):=by
  obtain⟨D,H,rfl,_,_⟩:=r.ex;obtain⟨d,I,rfl,_,_⟩:=y.ex;go_enter func236,ntmps236;go_wp2;go_ret;exact⟨by simp,rfl⟩
 refine h.mono ?_;rintro e w' ⟨rfl,rfl⟩;have D:Kept [] w (w.alloc (gz #[v1] 84)):=(Kept.refl _ _).alloc _;have d:=D.alloc (gz #[v2] 84);have n:=fP (w.alloc (gz #[v1] 84)) (gz #[v2] 84);rw[xW]at n;exact⟨⟨_,rfl,ah7 _ _ f m v1 v2 p q _ ((Below.heap_alloc _ _ _ (by simp)).trans (fP w _)) n (r.ib d) (y.ib d),(Below.heap_alloc _ _ _ (by simp)).trans (fP w _),n⟩,d⟩
def aaY (f m:List Nat) (v1 v2:gG) (p q:fY->Bool) (w:gm) (r:oB f v1 p w) (y:oB m v2 q w):
  Calls prog 271 #[v1,v2] w λe w'=>(∃v,e=ig v/\oB (w.heap.size::(w.heap.size+1)::(f++m)) v (λs=>p s&&!q s) w'/\w'.heap[w.heap.size]?=some (gz #[v1] 84)/\w'.heap[w.heap.size+1]?=some (gz #[v2] 84))/\Kept [] w w':=by
 have h:Calls prog 271 #[v1,v2] w λe w'=>e=ig (.func (.func 315) #[] #[gE w.heap.size,gE (w.heap.size+1)])/\w'=(w.alloc (gz #[v1] 84)).alloc (gz #[v2] 84):=by
  obtain⟨D,H,rfl,_,_⟩:=r.ex;obtain⟨d,I,rfl,_,_⟩:=y.ex;go_enter func271,ntmps271;go_wp2;go_ret;exact⟨by simp,rfl⟩
 refine h.mono ?_;rintro e w' ⟨rfl,rfl⟩;have D:Kept [] w (w.alloc (gz #[v1] 84)):=(Kept.refl _ _).alloc _;have d:=D.alloc (gz #[v2] 84);have n:=fP (w.alloc (gz #[v1] 84)) (gz #[v2] 84);rw[xW]at n;exact⟨⟨_,rfl,aea _ _ f m v1 v2 p q _ ((Below.heap_alloc _ _ _ (by simp)).trans (fP w _)) n (r.ib d) (y.ib d),(Below.heap_alloc _ _ _ (by simp)).trans (fP w _),n⟩,d⟩
def acq (d:List Nat) (v1:gG) (p:fY->Bool) (w:gm) (m:oB d v1 p w):
  Calls prog 235 #[v1] w λe w'=>(∃v,e=ig v/\oB (w.heap.size::d) v (λs=>!p s) w'/\w'.heap[w.heap.size]?=some (gz #[v1] 84))/\Kept [] w w':=by
 have h:Calls prog 235 #[v1] w λe w'=>e=ig (.func (.func 289) #[] #[gE w.heap.size])/\w'=w.alloc (gz #[v1] 84):=by
  obtain⟨f,n,rfl,_,_⟩:=m.ex;go_enter func235,ntmps235;go_wp2;go_ret;exact⟨rfl,rfl⟩
 refine h.mono ?_;rintro e w' ⟨rfl,rfl⟩;have f:Kept [] w (w.alloc (gz #[v1] 84)):=(Kept.refl _ _).alloc _;exact⟨⟨_,rfl,ae3 _ d v1 p _ (fP w _) (m.ib f),fP w _⟩,f⟩
open Go.ChangeMaps (setBlock)
theorem WL (a b:fY):(a==b)=kJ a b:=by
 have h:(a==b)=(a.data==b.data):=rfl;rw[h];by_cases e:a=b
 .grind[kJ]
 .rw[abv.2 e];have:a.data≠b.data:=λd=>e (by cases a;simp_all);grind
def kvE (e:MapEntry):gG×gG:=(e.key,e.val)
def kvP (p:fY×gG):gG×gG:=(gu p.1,p.2)
def fnd:List (fY×gG)->fY->Nat->Option (Nat×gG)
 |[],_,_=>none
 |p::L,k,i=>if kJ k p.1 then some (i,p.2)else fnd L k (i+1)
def AD:List (fY×gG)->fY->Option gG
 |[],_=>none
 |p::L,k=>if kJ k p.1 then some p.2 else AD L k
def DG:List (fY×gG)->fY->gG->List (fY×gG)
 |[],k,v=>[(k,v)]
 |p::L,k,v=>if kJ k p.1 then (k,v)::L else p::DG L k v
def RM:∀(L:List (fY×gG)) (k:fY) (i:Nat),(fnd L k i).map (·.2)=AD L k
 |[],_,_=>rfl
 |p::L,k,i=>by
  unfold fnd AD;split
  .rfl
  .exact RM L k (i+1)
def RN:∀(L:List (fY×gG)) (k:fY) (i:Nat) (v:gG),fnd L k i=none->DG L k v=L++[(k,v)]
 |[],_,_,_,_=>rfl
 |p::L,k,i,v,h=>by
  unfold fnd at h;split at h
  .cases h
  .rename_i d;unfold DG;rw[gH d,RN L k (i+1) v h];rfl
theorem RO:∀(L:List (fY×gG)) (k:fY) (i j:Nat) (u v:gG),fnd L k i=some (j,u)->∃n,j=i+n/\n < L.length/\(L[n]?).map (·.1)=some k/\DG L k v=L.set n (k,v)
 |[],_,_,_,_,_,h=>by cases h
 |p::L,k,i,j,u,v,h=>by
  unfold fnd at h;split at h
  .rename_i d;cases h;refine⟨0,rfl,by simp,?_,?_⟩
   .simp[(yh.1 d)]
   grind[DG]
  .rename_i d;have⟨n,e1,e2,e3,e4⟩:=RO L k (i+1) j u v h;refine⟨n+1,by omega,by grind,by grind,?_⟩;grind[DG]
theorem O6 (k:fY):∀(d:List MapEntry) (L:List (fY×gG)) (i:Nat),d.map kvE=L.map kvP->Instr.findNow .string (gu k) d i=some (fnd L k i)
 |[],[],_,_=>rfl
 |[],_::_,_,h=>by simp at h
 |_::_,[],_,h=>by simp at h
 |e::d,p::L,i,h=>by
  simp only[yH,Ub]at h;have f:e.key=gu p.1:=si Prod.fst h.1;have m:e.val=p.2:=si Prod.snd h.1;unfold Instr.findNow fnd;simp only[f,Instr.sameNow,WL];cases hf:kJ k p.1
  .exact O6 k d L (i+1) h.2
  grind
def sX (w:gm) (b:Nat) (L:List (fY×gG)):Prop:=∃f d,w.heap[b]?=some (.map f d)/\f.toList.map kvE=L.map kvP
theorem sX.keeps (h:sX w b L) (e:w'.heap[b]?=w.heap[b]?):sX w' b L:=by
 grind[sX]
theorem sX.lt (h:sX w b L):b < w.heap.size:=by
 have⟨es,clock,ha,_⟩:=h;grind
def sX.kept (h:sX w b L) (f:Kept S w w') (d:b∉S):sX w' b L:=h.keeps (f.block b h.lt d)
def sX.new (w:gm):sX (w.alloc (.map #[] 0)) w.heap.size []:=⟨#[],0,fP w _,rfl⟩
theorem Ba (h:Kept S a w) (m:b∈S\/a.heap.size<=b) (o:Obj):Kept S a (setBlock w b o):=
 ⟨h.os,h.tape,h.output,by show a.heap.size<=(w.heap.setIfInBounds b o).size;rw[Uc];exact h.size,λk d f=>by
  show(w.heap.setIfInBounds b o)[k]?=_;rw[FQ (by grind)];exact h.block k d f⟩
theorem Fv (h:b < w.heap.size) (o:Obj):(setBlock w b o).heap[b]?=some o:=by
 show(w.heap.setIfInBounds b o)[b]?=_;grind
def Gy {E : TypeId} {z : gG} (m:prog.underlying T=some (.map 9 E)) (r:∀w,(zeroValue E).run prog w= .ok z w) (h:sX w b L) (k:fY):
  (Instr.lookup T (.map (some b)) (gu k) false).run prog w= .ok ((AD L k).getD z) w:=by
 have⟨es,clock,ha,hl⟩:=h;have q:(underlying 9).run prog w= .ok .string w:=qq underlying9 _;have n:∀x,(Instr.checkKey x 10000 9 (gu k)).run prog w= .ok () w:=λx=>by
  unfold Instr.checkKey;simp
 have d:=O6 k es.toList L 0 hl;have f:=RM L k 0;cases hq:fnd L k 0 with
 |none=>
  rw[hq]at d f;rw[<-f];simp[Instr.lookup,qq m,LR ha,n,Instr.findKey,q,d,r,Result.andThen]
 |some p=>
  rw[hq]at d f;rw[<-f];simp[Instr.lookup,qq m,LR ha,n,Instr.findKey,q,d,Result.andThen]
theorem Tp {E : TypeId} (y:prog.underlying T=some (.map 9 E)) (h:sX w b L) (k:fY) (v:gG):
  ∃w',(Instr.mapUpdate T (.map (some b)) (gu k) v).run prog w= .ok () w'/\sX w' b (DG L k v)/\Kept [b] w w'/\w'.heap.size=w.heap.size:=by
 have f:=h.lt;have⟨es,clock,ha,hl⟩:=h;have I:(underlying 9).run prog w= .ok .string w:=qq underlying9 _;have D:∀x,(Instr.checkKey x 10000 9 (gu k)).run prog w= .ok () w:=λx=>by
  unfold Instr.checkKey;simp
 have m:=O6 k es.toList L 0 hl;cases hq:fnd L k 0 with
 |none=>
  rw[hq]at m;refine⟨setBlock w b (.map (es.push {key:=gu k,val:=v,born:=clock}) (clock+1)),?_,⟨_,_,Fv f _,?_⟩,Ba (Kept.refl _ _) (.inl (by simp)) _,?_⟩
  .simp[Instr.mapUpdate,qq y,LR ha,D,Instr.findKey,I,m,setObj,Sem.run,ha,setBlock,Result.andThen]
  .rw[RN L k 0 v hq];simp[hl,kvE,kvP]
  .show(w.heap.setIfInBounds b _).size=_;simp
 |some p=>
  have⟨j,u⟩:=p;rw[hq]at m;have⟨n,hj,hn,hkey,hput⟩:=RO L k 0 j u v hq;have r:j=n:=by omega
  subst r;have H:es.size=L.length:=by have:=si List.length hl;simpa using this
  have q:(es[j]?).map (·.key)=some (gu k):=by
   have d:(es.toList.map kvE)[j]?=(L.map kvP)[j]?:=by rw[hl]
   rw[List.getElem?_map,List.getElem?_map]at d;rw[Yd]at d;rw[qs hn]at hkey d;rw[xP (by omega)]at d|-;simp[kvE,kvP]at d hkey|-;rw[d.1,hkey]
  refine⟨setBlock w b (.map (es.modify j λe=>{e with key:=gu k,val:=v}) clock),?_,⟨_,_,Fv f _,?_⟩,Ba (Kept.refl _ _) (.inl (by simp)) _,?_⟩
  .have N:(Instr.keyThatStays (((es[j]?).map (·.key)).getD (gu k)) (gu k)).run prog w= .ok (gu k) w:=by
    rw[q];have s:(k==k)=true:=by rw[WL];exact yh.2 rfl
    simp[Instr.keyThatStays,Instr.sameBits,s]
   simp[Instr.mapUpdate,qq y,LR ha,D,Instr.findKey,I,m,N,setObj,Sem.run,ha,setBlock,Result.andThen]
  .rw[hput];apply List.ext_getElem?;intro i;have d:(es.toList.map kvE)[i]?=(L.map kvP)[i]?:=by rw[hl]
   grind[kvE,kvP]
  .show(w.heap.setIfInBounds b _).size=_;simp
section
variable {P:Program} {ops:Array Oper} {Q:Exit->Act->gm->Prop} {md:Region.Mode}
theorem zp {I:Array Bool->Act->gm->Prop}
  (r:∀d a w i,I d a w->i∈Region.ready md ops d->wpOp P ops Q i (I (d.setIfInBounds i true)) a w)
  (m:∀d a w,I d a w->Region.ready md ops d=[]->Q .normal a w):
  ∀f d a w,((List.range ops.size).filter (λi=>!d.getD i true)).length<=f->I d a w->wpAny P md ops Q f d a w:=by
 intro f
 induction f with
 |zero=>
  intro d a w Z y;have D:(List.range ops.size).filter (λi=>!d.getD i true)=[]:=QB (by omega);have R:Region.ready md ops d=[]:=by
   unfold Region.ready;rw[Ud]at D|-;intro i q H;apply D i q;rw[pW]at H;exact H.1
  exact⟨R,m _ _ _ y R⟩
 |succ n ih=>
  intro d a w Z y;refine⟨m _ _ _ y,λi q=>wpOp_mono (λU w' V=>ih _ U w' ?_ V) (r _ _ _ i y q)⟩;have s:i∈(List.range ops.size).filter (λi=>!d.getD i true):=by
   unfold Region.ready at q;rw[LS,pW]at q;exact List.mem_filter.2 ⟨q.1,q.2.1⟩
  have N:d.getD i true=false:=by
   have:=(List.mem_filter.1 s).2
   simpa using this
  have Y:i < d.size:=by
   apply Decidable.byContradiction;intro h;rw[Uf,LU (by omega)]at N;simp at N
  have e:(List.range ops.size).filter (λj=>!(d.setIfInBounds i true).getD j true)=((List.range ops.size).filter (λj=>!d.getD j true)).filter (λj=>j != i):=by
   rw[List.filter_filter];refine List.filter_congr λj _=>?_;by_cases X:j=i
   .simp_all
   .have:i≠j:=λh=>X h.symm;simp_all
  rw[e];have:(((List.range ops.size).filter (λj=>!d.getD j true)).filter (λj=>j != i)).length < ((List.range ops.size).filter (λj=>!d.getD j true)).length:=by
   rw[List.length_filter_lt_length_iff_exists];exact⟨i,s,by simp⟩
  omega
end
def dn (z:Array Bool) (k:Nat):Bool:=z.getD k true
def cd (z:Array Bool) (k:Nat) (v:gG):gG:=cond (dn z k) v undef
def vX (md:Region.Mode) (ops:Array Oper) (i:Nat):List Nat:=
 match ops[i]? with|some o=>(o.after.toList.filter (Region.binds md)).map (·.on)|none=>[]
def sM:dn (z.setIfInBounds k true) k=true:=by
 simp[dn]
def pr (h:k≠j):dn (z.setIfInBounds k true) j=dn z j:=getD_set_ne true h
def qC {p : Prop} (h:dn z j=true->p) (d:k≠j):dn (z.setIfInBounds k true) j=true->p:=by
 rw[pr d];exact h
theorem lC (h:dn z k=true):cd z k v=v:=by unfold cd;grind
theorem ags (h:dn z k=false):cd z k v=undef:=by unfold cd;grind
def pn:cd (z.setIfInBounds k true) k v=v:=lC sM
def wx (h:k≠j):cd (z.setIfInBounds k true) j v=cd z j v:=by
 unfold cd;rw[pr h]
def ce (z:Array Bool) (k:Nat) (u v:gG):gG:=cond (dn z k) v u
theorem aa3 (h:dn z k=true):ce z k u v=v:=by unfold ce;grind
def WR:ce (z.setIfInBounds k true) k u v=v:=aa3 sM
def agt (h:k≠j):ce (z.setIfInBounds k true) j u v=ce z j u v:=by
 unfold ce;rw[pr h]
theorem yt {n : Nat}:dn (Array.replicate n true) k=true:=by
 unfold dn;rw[Uf,Array.getElem?_replicate];grind
def vW {n : Nat}:cd (Array.replicate n true) k v=v:=lC yt
def aa2 {n : Nat}:ce (Array.replicate n true) k u v=v:=aa3 yt
def nu {p : Nat->Prop}:∀k < 0,p k:=λ_ h=>absurd h (Nat.not_lt_zero _)
theorem nr {p : Nat->Prop} {n : Nat} (t:∀k < n,p k) (h:p n):∀k < n+1,p k:=λk d=>by
 grind
def Dh (z:Array Bool) (i:Nat):List Nat->Prop
 |[]=>dn z i=false
 |j::l=>dn z j=true/\Dh z i l
def WH (h:z.getD i true=false):∀{l:List Nat},(∀j∈l,z.getD j true=true)->Dh z i l
 |[],_=>h
 |j::l,hl=>⟨hl j (kK ..),WH h λk d=>hl k (nc _ d)⟩
def zA (md:Region.Mode) (ops:Array Oper):List (List Nat):=(List.range ops.size).map (vX md ops)
def aci:Nat->List (List Nat)->Bool
 |_,[]=>true
 |i,l::ls=>l.all (· < i)&&aci (i+1) ls
theorem Xs:∀{d:List (List Nat)} {i k:Nat} {l:List Nat},aci i d=true->d[k]?=some l->∀j∈l,j < i+k
 |l'::d,i,0,l,h,hk,j,hj=>by
  simp at hk;subst hk;simp[aci]at h;grind
 |l'::d,i,k+1,l,h,hk,j,hj=>by
  simp[aci]at h;have:=Xs (i:=i+1) (k:=k) h.2 (by grind) j hj;omega
def aeg:List (List Nat)->List (List Nat)->List (List Nat)
 |acc,[]=>acc
 |acc,l::ls=>aeg (acc++[(l++l.flatMap λj=>acc.getD j []).eraseDups]) ls
theorem G1:∀(m d:List (List Nat)),(∀k,dn z k=true->∀j∈d.getD k [],dn z j=true)->
  (∀k l,m[k]?=some l->dn z (d.length+k)=true->∀j∈l,dn z j=true)->∀k,dn z k=true->∀j∈(aeg d m).getD k [],dn z j=true
 |[],d,h,_=>h
 |l::m,d,h,hl=>by
  refine G1 m _ ?_ ?_
  .intro k n j f;rw[xX]at f;by_cases r:k < d.length
   .rw[Ye r]at f;exact h k n j (by grind)
   .by_cases s:k=d.length
    .subst s;simp at f;have q:=hl 0 l rfl n;rcases f with f|⟨i,y,f⟩
     .grind
     .exact h i (q i y) j (by grind)
    grind
  .intro k D n H j f;refine hl (k+1) D (by grind) ?_ j f;grind
theorem Rc:∀(m d:List (List Nat)),(∀k,∀j∈d.getD k [],j < k)->(∀k l,m[k]?=some l->∀j∈l,j < d.length+k)->∀k,∀j∈(aeg d m).getD k [],j < k
 |[],d,h,_=>h
 |l::m,d,h,hl=>by
  refine Rc m _ ?_ ?_
  .intro k j f;rw[xX]at f;by_cases s:k < d.length
   .grind
   .by_cases n:k=d.length
    .subst n;simp at f;have r:=hl 0 l rfl;rcases f with f|⟨i,y,f⟩
     .grind
     .have:=h i j (by grind);grind
    grind
  .intro k q D j f;have:=hl (k+1) q (by grind) j f;grind
def okT (n:Nat) (md:Region.Mode) (ops:Array Oper) (d:List (List Nat)):Bool:=
 d.length==ops.size&&n==ops.size&&aci 0 (zA md ops)&&(List.range ops.size).all λi=>(d.getD i []).all λj=>((aeg [] (zA md ops)).getD i []).contains j
section
variable {P:Program} {ops:Array Oper} {Q:Exit->Act->gm->Prop} {md:Region.Mode} {G:Type}
theorem qp (mk:G->Array Bool->Act) (I:G->Array Bool->gm->Prop) (n:Nat) (q:List (List Nat)) {a:Act} {w:gm} (g:G)
  (H:okT n md ops q=true) (ha:a=mk g (Array.replicate n false)) (h0:I g (Array.replicate n false) w)
  (hs:∀i < n,∀g z W,I g z W->Dh z i (q.getD i [])->(∀j,i∈q.getD j []->dn z j=false)->
   wpOp P ops Q i (λa W'=>∃g,a=mk g (z.setIfInBounds i true)/\I g (z.setIfInBounds i true) W') (mk g z) W)
  (Y:∀g W,I g (Array.replicate n true) W->Q .normal (mk g (Array.replicate n true)) W):
  wpAny P md ops Q ops.size (Array.replicate ops.size false) a w:=by
 subst ha;simp only[okT,pW,beq_iff_eq,LV,FR]at H;have⟨⟨⟨hnd,hn⟩,hl0⟩,hsub⟩:=H;have R:∀i < ops.size,∀j∈vX md ops i,j < i:=by
  intro i N j d;have:=Xs (i:=0) (k:=i) (l:=vX md ops i) hl0 (by simp[zA,N]) j d;omega
 rw[hn]at h0 hs Y|-;have a3:∀i < ops.size,∀j∈q.getD i [],j < i:=by
  intro i N j d;have V:=hsub i N j d;refine Rc (zA md ops) [] (by simp) (λk l m=>?_) i j (by simpa using V);have s:k < ops.size:=by simpa [zA]using (List.getElem?_eq_some_iff.1 m).1
  have:l=vX md ops k:=by simpa [zA,s]using m.symm
  subst this
  simpa using R k s
 have D:∀z:Array Bool,(∀j,dn z j=true->∀k∈vX md ops j,dn z k=true)->∀i < ops.size,dn z i=true->∀j∈q.getD i [],dn z j=true:=by
  intro z U i N Y j d;refine G1 (zA md ops) [] (by simp) ?_ i Y j (by grind);intro k l m Y j d;have s:k < ops.size:=by simpa [zA]using (List.getElem?_eq_some_iff.1 m).1
  have:l=vX md ops k:=by simpa [zA,s]using m.symm
  subst this;exact U k (by simpa using Y) j d
 have a1:∀z:Array Bool,z.size=ops.size->∀i,i∈Region.ready md ops z->z.getD i true=false/\i < ops.size/\∀j∈vX md ops i,z.getD j true=true:=by
  intro z U i N;have⟨a,o,ho,r⟩:=mem_ready.1 N;refine⟨a,(Array.getElem?_eq_some_iff.1 ho).1,λj d=>?_⟩;simp only[vX,ho,List.mem_map,LS]at d;obtain⟨e,⟨he,hb⟩,rfl⟩:=d;have V:=r e (by simpa using he) hb;rw[Uf]at V|-;cases hx:z[e.on]? with
  |none=>rfl
  |some b=>grind
 refine zp (I:=λz a W=>(z.size=ops.size/\∀j,dn z j=true->∀k∈vX md ops j,dn z k=true)/\∃g,a=mk g z/\I g z W) ?_ ?_ _ _ _ _ ?_ ⟨⟨by simp,λj d k m=>?_⟩,g,rfl,h0⟩
 .rintro z a W i ⟨⟨U,X⟩,g,rfl,hI⟩ N;have⟨a,b,c⟩:=a1 z U i N;have y:∀j,dn (z.setIfInBounds i true) j=true->∀k∈vX md ops j,dn (z.setIfInBounds i true) k=true:=by
   intro j d k m;have:dn z k=true:=by
    by_cases Z:i=j
    .subst Z;exact c k m
    .rw[pr Z]at d;exact X j d k m
   by_cases a0:i=k
   .subst a0;exact sM
   .rw[pr a0];omega
  refine wpOp_mono (λa' W' h=>⟨⟨by simpa using U,λj d k m=>?_⟩,h⟩) (hs i b g z W hI (WH a λj d=>?_) λj d=>?_)
  .exact y j d k m
  .have hl:=a3 i b j d;have:=D _ y i b sM j d
   rwa [pr (by omega)]at this
  .rw[<-Bool.not_eq_true];intro a2;by_cases f:j < ops.size
   .have:=D z X j f a2 i d;rw[show dn z i=false from a]at this;cases this
   grind
 .rintro z a W ⟨⟨U,_⟩,g,rfl,hI⟩ hr;have r:∀i,∀j≤i,z.getD j true=true:=by
   intro i
   induction i with
   |zero=>?_
   |succ i ih=>?_
   all_goals
    intro j d;rw[<-Bool.not_eq_false];intro hf;have f:j < ops.size:=by
     rw[<-U];apply Decidable.byContradiction;intro h;rw[Uf,LU (by omega)]at hf;simp at hf
    have:j∈Region.ready md ops z:=by
     refine mem_ready.2 ⟨hf,ops[j],by simp,λe he hb=>?_⟩;have hl:=R j f e.on (by simp only[vX,xP f,List.mem_map,LS];grind)
     first
     |omega
     |grind
    grind
  have a4:z=Array.replicate ops.size true:=by
   apply Array.ext
   .simpa using U
   .intro i V h2;have:=r i i (gL _);rw[Uf,xP V]at this
    simpa using this
  grind
 .grind
 .by_cases f:j < ops.size
  .simp[dn,f]at d
  .simp[vX,LU (Nat.le_of_not_lt f)]at m
end
inductive Nd
 |el (k:Nat)
 |tx (k:Nat)
 |cm (k:Nat)
 |dt (k:Nat)
def Nd.val:Nd->gG
 | .el k=> .iface 65 (gE k)
 | .tx k=> .iface 275 (gE k)
 | .cm k=> .iface 231 (gE k)
 | .dt k=> .iface 235 (gE k)
def Nd.one (n:Nd):n.val.oneCell'=true:=by cases n<;>rfl
def Xw (ns:List Nd):∀x∈ns.map Nd.val,x.oneCell'=true:=by
 intro u d;obtain⟨x,_,rfl⟩:=List.mem_map.1 d;exact x.one
structure El (base:Nat) (w:gm) (k:Nat) (name:fY) (av:gG) (je:iY) (kv:gG) (ns:List Nd):Prop where
 iw:w.heap[k]?=some (gz #[gu name,av,ku je,kv] 135)
 row:w.ownsRow base 137 1 kv ns.length (ns.map Nd.val)
 le:ns.length<=1048576
 WJ:∃ao n c,av= .slice ao n c
theorem El.nI {ns:List Nd} (h:El base w k name av je kv ns) (m:w.heap[b]?=some (gz c t)) (q:t≠137):kv.ownBlock≠some b:=by
 intro d;rcases h.row.2 with⟨e,_⟩|⟨g,cap,f,e,_,n,_⟩
 .rw[e]at d;cases d
 .rw[e]at d;obtain rfl:=jv d;grind
def El.kept {ns:List Nd} (h:El base w k name av je kv ns) (d:Kept S w w') (f:k∉S) (m:∀g,kv.ownBlock=some g->g∉S):El base w' k name av je kv ns:=
 ⟨d.at h.iw f,d.ownsRow h.row m,h.le,h.WJ⟩
abbrev place (k n:Nat):gG:= .agg #[gE k,fV n]
def ahy (base k:Nat) (name:fY) (av kv:gG) (je:iY) (ns:List Nd) (w:gm) (h:El base w k name av je kv ns):
  Calls prog 90 #[gE k] w λe w'=>e=ig (place k ns.length)/\Kept [] w w':=by
 obtain⟨ao,cap,rfl⟩:=gw h.row;have f:=fN h.iw 3;dsimp at f;have m:=iQ h.iw;have d:=(Kept.refl [] w).alloc (gz #[gE k,fV ns.length] 229);go_enter func90,ntmps90;go_wp2;refine ou (v:=place k ns.length) ?_ rfl ⟨rfl,d⟩;simp[results,results90,asAddr,Result.andThen,go_sem]
def Jy (base k:Nat) (name:fY) (av kv:gG) (je:iY) (ns:List Nd) (w:gm) (h:El base w k name av je kv ns):
  Calls prog 266 #[gE k] w λe w'=>e=ig (gE w.heap.size)/\El base w' w.heap.size name av none (ji) []/\Kept [] w w':=by
 have r:w.drew.cell? ⟨k,0,none⟩=some (gu name):=by show w.cell? _=_;rw[fN h.iw];rfl
 have s:w.drew.cell? ⟨k,1,none⟩=some av:=by show w.cell? _=_;rw[fN h.iw];rfl
 have f:=(Kept.refl [] w).drew.alloc (gz #[gu name,av,.pointer none,ji] 135);have d:=(show El base (w.drew.alloc (gz #[gu name,av,.pointer none,ji] 135)) w.heap.size name av none (ji) []from⟨fP w.drew _,pk _ _ _ _,by simp,h.WJ⟩);obtain⟨m,q,n,rfl⟩:=h.WJ;go_enter func266,ntmps266;go_wp21;go_region;go_wp2;go_ret;exact⟨rfl,d,f⟩
theorem El.XR {d : gG} {ns f:List Nd} (h:El base w k name av je kv ns) (s:w'.heap[k]?=w.heap[k]?) (q:w'.ownsRow base 137 1 d f.length (f.map Nd.val)) (y:f.length<=1048576):El base (w'.setCell ⟨k,3,none⟩ d) k name av je d f:=by
 have n:=s.trans h.iw;refine⟨fR n 3 d,rq (a:=⟨k,3,none⟩) q ?_ _,y,h.WJ⟩;intro m;rcases q.2 with⟨e,_⟩|⟨g,cap,r,e,_,D,_⟩
 .rw[e]at m;cases m
 .rw[e]at m;obtain rfl:=jv m;grind
def El.ac0 {ns:List Nd} (h:El base w k name av je kv ns) (p:iY):El base (w.setCell ⟨k,2,none⟩ (ku p)) k name av p kv ns:=
 ⟨fR h.iw 2 (ku p),rq (a:=⟨k,2,none⟩) h.row (h.nI h.iw (by decide)) _,h.le,h.WJ⟩
def lf {a : Addr} (h:b≠a.block):(w.setCell a u).cell? ⟨b,j,none⟩=w.cell? ⟨b,j,none⟩:=adv (Below.heap_setCell w a u b h)
def XY {X : TypeId} (d:prog.underlying X=some (.pointer e)) (v:gG) (f:TypeId) (w:gm):(Instr.typeAssert (.iface X v) f X true).run prog w= .ok (.tuple #[v,.bool true]) w:=by
 simp[Instr.typeAssert,qq d]
def GG {X : TypeId} (h:prog.underlying X=some (.pointer e)) (f:(prog.info? X).bind (·.zero)=some (.pointer none)) (d:T≠X) (v:gG) (m:TypeId) (w:gm):(Instr.typeAssert (.iface T v) m X true).run prog w= .ok (.tuple #[.pointer none,.bool false]) w:=by
 have⟨i,hi,f⟩:=Option.bind_eq_some_iff.1 f;simp[Instr.typeAssert,qq h,d,zeroValue,typeInfo,hi,f]
structure aax (base k:Nat) (name:fY) (av kv:gG) (je:iY) (ns:List Nd) (w w':gm):Prop where
 ex:∃kv',El base w' k name av je kv' ns/\(kv'.ownBlock=kv.ownBlock\/∀g,kv'.ownBlock=some g->w.heap.size<=g)
 kept:Kept (k::kv.ownBlock.toList) w w'
def QL (base k n:Nat) (name:fY) (av:gG) (je:iY) (ao:Option Addr) (cap:Nat) (ns:List Nd) (x:Nd) (s:TypeId) (r:gG) (w w1:gm) (h m q:Bool) (d:gG) (W:gm):Prop:=
 if q then aax base k name av (.slice ao ns.length cap) je (ns.take n++[x]++ns.drop n) w W/\W.heap[w.heap.size]?=some (gz #[gE k,fV n] 229)
 else if m then W.ownsRow base 137 1 d (ns.length+1) ((ns.map Nd.val).take n++[.iface s r]++(ns.map Nd.val).drop n)/\Kept (Value.slice ao ns.length cap).ownBlock.toList w1 W/\(d.ownBlock=(Value.slice ao ns.length cap).ownBlock\/∀g,d.ownBlock=some g->w1.heap.size+1<=g)
 else if h then ∃f,Kept [] w1 f/\f.heap.size=w1.heap.size/\W=f.alloc (gz #[.iface s r] 137)
 else Kept [] w1 W/\W.heap.size=w1.heap.size
def QL.iw {n : Nat} {ns:List Nd} {x:Nd} {H : TypeId} {D : gG} {d f m : Bool} {r : gG} (h:QL base k n name av je ao cap ns x H D w w1 d f m r W) (q:w1.heap[w.heap.size]?=some (gz #[gE k,fV n] 229)) (s:w.heap.size∉(Value.slice ao ns.length cap).ownBlock.toList):W.heap[w.heap.size]?=some (gz #[gE k,fV n] 229):=by
 unfold QL at h;split at h
 .exact h.2
 split at h
 .exact h.2.1.at q s
 split at h
 .obtain⟨I,y,_,rfl⟩:=h;exact(y.alloc _).at q (by simp)
 .exact h.1.at q (by simp)
theorem QL.old {n : Nat} {ns:List Nd} {x:Nd} {r : TypeId} {q : gG} {d : Bool} {f : gG} (h:QL base k n name av je ao cap ns x r q w w1 d false false f W):Kept [] w1 W:=by
 unfold QL at h;simp only[ru,↓reduceIte]at h;split at h
 .obtain⟨s,m,_,rfl⟩:=h;exact m.alloc _
 grind
theorem afu {n : Nat} {ns:List Nd} {f d : gm} (r:Kept [] w1 f) (y:f.heap.size=w1.heap.size) (q:W=f.alloc (gz #[u] 137)) (m:d.ownsRow base 137 1 v' (ns.length+1) ((ns.map Nd.val).take n++[u]++(ns.map Nd.val).drop n)) (h:Kept (Value.slice ao ns.length cap).ownBlock.toList W d) (s:v'.ownBlock=(Value.slice ao ns.length cap).ownBlock\/∀k,v'.ownBlock=some k->W.heap.size<=k):
  d.ownsRow base 137 1 v' (ns.length+1) ((ns.map Nd.val).take n++[u]++(ns.map Nd.val).drop n)/\Kept (Value.slice ao ns.length cap).ownBlock.toList w1 d/\(v'.ownBlock=(Value.slice ao ns.length cap).ownBlock\/∀g,v'.ownBlock=some g->w1.heap.size+1<=g):=by
 subst q;refine⟨m,((r.alloc _).mono (by simp)).trans h,?_⟩;simp_all
theorem aft {n : Nat} {f : Option Addr} {d : Nat} {ns:List Nd} {x:Nd} (h:El base w1 k name av je (.slice ao ns.length cap) ns) (V:Kept [] w w1) (z1:w1.heap.size=w.heap.size+1) (R:w1.heap[w.heap.size]?=some (gz #[gE k,fV n] 229)) (s:k∉(Value.slice ao ns.length cap).ownBlock.toList) (r:w.heap.size∉(Value.slice ao ns.length cap).ownBlock.toList) (Z:n<=ns.length) (Y:ns.length < 1048576) (q:w.heap.size≠k) (D:x.val=u)
  (ho:W.ownsRow base 137 1 (.slice f (ns.length+1) d) (ns.length+1) ((ns.map Nd.val).take n++[u]++(ns.map Nd.val).drop n)) (m:Kept (Value.slice ao ns.length cap).ownBlock.toList w1 W) (X:(Value.slice f (ns.length+1) d).ownBlock=(Value.slice ao ns.length cap).ownBlock\/∀g,(Value.slice f (ns.length+1) d).ownBlock=some g->w1.heap.size+1<=g):
  aax base k name av (.slice ao ns.length cap) je (ns.take n++[x]++ns.drop n) w (W.setCell ⟨k,3,none⟩ (.slice f (ns.length+1) d))/\(W.setCell ⟨k,3,none⟩ (.slice f (ns.length+1) d)).heap[w.heap.size]?=some (gz #[gE k,fV n] 229):=by
 have H:(ns.take n++[x]++ns.drop n).length=ns.length+1:=by simp;omega
 have I:(ns.take n++[x]++ns.drop n).map Nd.val=(ns.map Nd.val).take n++[u]++(ns.map Nd.val).drop n:=by simp[D]
 have e2:=m.at h.iw s;have N:=m.at R r;refine⟨⟨⟨.slice f (ns.length+1) d,h.XR (e2.trans h.iw.symm) (by grind) (by omega),?_⟩,?_⟩,?_⟩
 .grind
 .exact((V.mono (S':=k::(Value.slice ao ns.length cap).ownBlock.toList) (by simp)).next m (λy U=> .inl (nc _ U))).setCell (p:=⟨k,3,none⟩) (.inl (by simp)) _
 .rw[Below.heap_setCell W ⟨k,3,none⟩ _ _ q];exact N
theorem XE (base k n:Nat) (name:fY) (av kv:gG) (je:iY) (ns:List Nd) (x:Nd) (w:gm) (h:El base w k name av je kv ns) (a0:n<=ns.length) (hl:ns.length < 1048576) (hb:base<=w.heap.size) (Z:gm->Prop)
  (hZ:∀wc,aax base k name av kv je (ns.take n++[x]++ns.drop n) w wc->match x with
   | .el j=>(∃p,wc.cell? ⟨j,2,none⟩=some p)/\wc.frozen? ⟨j,2,none⟩=false/\Z (wc.setCell ⟨j,2,none⟩ (gE k))
   |_=>Z wc):
  Calls prog 166 #[place k n,x.val] w λe w'=>e=pL/\Z w':=by
 have ae:=iQ h.iw;have a1:=h.row.lt;obtain⟨w1,hw1⟩:∃w1,w1=w.alloc (gz #[gE k,fV n] 229):=⟨_,rfl⟩;have k1:Kept [] w w1:=by rw[hw1];exact(Kept.refl _ _).alloc _
 have g1:w1.heap[w.heap.size]?=some (gz #[gE k,fV n] 229):=by rw[hw1];exact fP w _
 have z1:w1.heap.size=w.heap.size+1:=by rw[hw1];simp
 have h1:=h.kept k1 (by simp) (by simp);obtain⟨ao,cap,rfl⟩:=gw h.row;have HI:∀W,Kept [] w1 W->W.heap.size=w1.heap.size->Calls prog 257 #[.slice ao ns.length cap,fV n,oo w1.heap.size 1 1] (W.alloc (gz #[x.val] 137)) (aav 137 base (.slice ao ns.length cap) ns.length n (ns.map Nd.val) x.val (W.alloc (gz #[x.val] 137))):=by
  intro W kW zW;have k2:Kept [] w1 (W.alloc (gz #[x.val] 137)):=kW.alloc _;have g2:=fP W (gz #[x.val] 137);rw[zW]at g2;exact agz (.inr ⟨rfl,rfl,rfl,rfl,rfl,rfl⟩) base ns.length n w1.heap.size _ x.val (ns.map Nd.val) _ (k2.ownsRow h1.row (λ_ _=>by simp)) g2 (λe=>by grind) x.one (Xw ns) a0 h.le (by grind)
 have f:=fM hZ;have H1:=fM h1;have s:=fM HI;have a2:=fM k1;have N:=fM g1;have a4:=fM z1;have ab:=fM a1;have U:=fM (show k∉(Value.slice ao ns.length cap).ownBlock.toList by simpa using h1.nI h1.iw (by decide));have R:=fM (show w.heap.size∉(Value.slice ao ns.length cap).ownBlock.toList by grind);have a9:w.heap.size≠k:=by omega
 have a3:=fM hw1;clear h h1 HI hZ k1 g1 z1 a1 hw1;obtain⟨H,D,d⟩:∃H D,x.val= .iface H D:=by cases x<;>exact⟨_,_,rfl⟩
 rw[d]at s|-;go_enter func166,ntmps166;go_wp21;rw[<-a3.out]
 go_cut []from 6 to 19 (λwc=>aax base k name av (.slice ao ns.length cap) je (ns.take n++[x]++ns.drop n) w wc/\wc.heap[w.heap.size]?=some (gz #[gE k,fV n] 229))
 case first=>
  refine vR (by rfl) ?_;refine qp (λ(g:gG) z=>⟨#[place k n,.iface H D,gE w.heap.size,undef,undef,undef,cd z 0 (gE w.heap.size),cd z 1 (gE k),cd z 2 (gE w.heap.size),cd z 3 (gE k),cd z 4 (gE k),cd z 5 (jG k 3),cd z 6 (.slice ao ns.length cap),cd z 7 (jG w.heap.size 1),cd z 8 (fV n),cd z 9 (.iface H D),cd z 10 (oo w1.heap.size 1 1),cd z 11 (g),cd z 12 (gE k),cd z 13 (jG k 3),undef,undef,undef,undef,undef,undef,undef,undef,undef,undef,undef],[]⟩) (λg z W=>QL base k n name av je ao cap ns x H D w w1 (dn z 10) (dn z 11) (dn z 14) g W) 15 [[],[0],[],[2],[3],[4],[5],[],[7],[],[9],[2,3,4,5,6,7,8,9,10],[1],[12],[0,1,2,3,4,5,6,7,8,9,10,11,12,13]] (undef) rfl (by rfl) (⟨(Kept.refl [] w1).drew,rfl⟩) ?_ ?_
  .repeat' first|exact nu|refine nr ?_ ?_
   all_goals
    rintro g z W I hc hn;simp[Dh]at hc;refine jY rfl ?_;intro K' r;simp only[lC,hc];have gB:=I.iw N R;have ac:W.cell? ⟨w.heap.size,0,none⟩=some (gE k):=by rw[fN gB];rfl
    have ad:W.cell? ⟨w.heap.size,1,none⟩=some (fV n):=by rw[fN gB];rfl
    have q:=I
    try simp only[hc]at q
    try rw[hn 14 (by decide)]at q
    try rw[hn 11 (by decide)]at q
    try (have cK:W.cell? ⟨k,3,none⟩=some (.slice ao ns.length cap):=(by rw[fN (q.old.at H1.out.iw (by simp))];rfl))
    go_simp
    first
    |refine r _ _ ⟨g,?_,(by rw[pr (by decide),pr (by decide),pr (by decide)];exact I)⟩
    |have q:Kept [] w1 W/\W.heap.size=w1.heap.size:=q;refine r _ _ ⟨g,?_,(by rw[sM,pr (by decide),pr (by decide),hn 11 (by decide),hn 14 (by decide)];grind[QL])⟩;simp[pn,wx,lC,hc,q.2]
    |obtain⟨V,q1,q2,hq⟩:∃V,Kept [] w1 V/\V.heap.size=w1.heap.size/\W=V.alloc (gz #[.iface H D] 137):=q;have C:=fM (s V q1 q2);rw[<-hq]at C;refine C.mono ?_;rintro e W2 ⟨v',rfl,aa,a8,a7⟩;refine r _ _ ⟨v',?_,(by rw[sM,pr (by decide),pr (by decide),hn 14 (by decide)];exact afu q1 q2 hq aa a8 a7)⟩
    |obtain⟨ho,hk,hf⟩:W.ownsRow base 137 1 g (ns.length+1) ((ns.map Nd.val).take n++[Value.iface H D]++(ns.map Nd.val).drop n)/\Kept (Value.slice ao ns.length cap).ownBlock.toList w1 W/\(g.ownBlock=(Value.slice ao ns.length cap).ownBlock\/∀b,g.ownBlock=some b->w1.heap.size+1<=b):=q;obtain⟨a5,Y,rfl⟩:=gw ho;have gK:=hk.at H1.iw U;have cK:W.cell? ⟨k,3,none⟩=some (.slice ao ns.length cap):=(by rw[fN gK];rfl);have zK:=gh gK 3;go_simp;refine r _ _ ⟨.slice a5 (ns.length+1) Y,?_,(by rw[sM];exact aft H1 a2 a4 N U R a0 hl a9 d ho hk hf)⟩
    all_goals simp[pn,wx,lC,hc]
  .rintro g W I;rw[yt,yt,yt]at I;simp only[vW];rename_i JJ a6;refine a6 _ _ ?_;go_meet;exact I
 case rest=>
  have⟨hp,hbx⟩:=hcut;have m:=f _ hp;clear hp s H1 f;cases x with
  |el j=>
   have⟨⟨p,c2⟩,fz,m⟩:=m;have f:=fM m;injection d with e1 e2;subst e1 e2;have cb:wc.cell? ⟨w.heap.size,0,none⟩=some (gE k):=by rw[fN hbx];rfl
   have y:=XY (X:=65) underlying65;clear hbx m;go_wp2;go_end0;exact⟨rfl,f⟩
  |tx j=>
   have f:=fM m;injection d with e1 e2;subst e1 e2;have y:=GG (X:=65) (T:=275) underlying65 rfl (by decide);clear m;go_wp2;go_end0;exact⟨rfl,f⟩
  |cm j=>
   have f:=fM m;injection d with e1 e2;subst e1 e2;have y:=GG (X:=65) (T:=231) underlying65 rfl (by decide);clear m;go_wp2;go_end0;exact⟨rfl,f⟩
  |dt j=>
   have f:=fM m;injection d with e1 e2;subst e1 e2;have y:=GG (X:=65) (T:=235) underlying65 rfl (by decide);clear m;go_wp2;go_end0;exact⟨rfl,f⟩
theorem acJ (base k n:Nat) (name:fY) (av kv:gG) (je:iY) (ns:List Nd) (x:Nd) (w:gm) (h:El base w k name av je kv ns) (m:n<=ns.length) (f:ns.length < 1048576) (d:base<=w.heap.size) (r:∀j,x≠ .el j):
  Calls prog 166 #[place k n,x.val] w λe w'=>e=pL/\aax base k name av kv je (ns.take n++[x]++ns.drop n) w w':=by
 refine XE base k n name av kv je ns x w h m f d _ λwc q=>?_;grind
theorem VM (base k n j:Nat) (name s:fY) (av kv q f:gG) (je m:iY) (ns D:List Nd) (w:gm) (h:El base w k name av je kv ns) (I:El base w j s q m f D) (N:j≠k) (a0:∀g,f.ownBlock=some g->kv.ownBlock≠some g) (hn:n<=ns.length) (hl:ns.length < 1048576) (hb:base<=w.heap.size):
  Calls prog 166 #[place k n,(Nd.el j).val] w λe w'=>e=pL/\(∃d,El base w' k name av je d (ns.take n++[.el j]++ns.drop n)/\(d.ownBlock=kv.ownBlock\/∀g,d.ownBlock=some g->w.heap.size<=g))/\El base w' j s q (some k) f D/\Kept (j::k::kv.ownBlock.toList) w w':=by
 refine XE base k n name av kv je ns (.el j) w h hn hl hb _ λwc V=>?_;have U:∀g,f.ownBlock=some g->g∉k::kv.ownBlock.toList:=by
  intro g hg r;rcases List.mem_cons.1 r with rfl|r
  .exact I.nI h.iw (by decide) hg
  .grind
 have R:j∉k::kv.ownBlock.toList:=by
  intro r;rcases List.mem_cons.1 r with e|r
  .omega
  .exact h.nI I.iw (by decide) (by grind)
 have H:=I.kept V.kept R U;have⟨d,E2,f2⟩:=V.ex;have Y:wc.cell? ⟨j,2,none⟩=some (ku m):=by rw[fN H.iw];rfl
 have Z:=gh H.iw 2;have X:El base (wc.setCell ⟨j,2,none⟩ (ku (some k))) k name av je d (ns.take n++[.el j]++ns.drop n):=
  ⟨by rw[Below.heap_setCell wc ⟨j,2,none⟩ _ k (wB N)];exact E2.iw,rq (a:=⟨j,2,none⟩) E2.row (E2.nI H.iw (by decide)) _,E2.le,E2.WJ⟩
 exact⟨⟨_,Y⟩,Z,⟨d,X,f2⟩,H.ac0 (some k),(V.kept.mono (S':=j::k::kv.ownBlock.toList) (λy hy _=>nc _ hy)).setCell (p:=⟨j,2,none⟩) (.inl (by simp)) (ku (some k))⟩
inductive Tn
 |el (name:fY) (gx:la) (kids:List Tn)
 |tx (s:fY)
 |cm (s:fY)
 |dt (s:fY)
inductive Ev
 |dt (s:fY)
 |cm (s:fY)
 |tx (s:fY)
 |enter (name:fY) (gx:la)
 |uj (name:fY)
variable {J : List Ev->gm->Prop} {tot : List Ev}
mutual
def D6 (vd:fY->Bool):Tn->List Ev
 | .el name gx ks=> .enter name gx::(if vd name then []else sA vd ks++[.uj name])
 | .tx s=>[.tx s]
 | .cm s=>[.cm s]
 | .dt s=>[.dt s]
def sA (vd:fY->Bool):List Tn->List Ev
 |[]=>[]
 |t::ts=>D6 vd t++sA vd ts
end
abbrev Ey (gx:la):List gG:=gx.flatMap λa=>[gu a.1,gu a.2]
abbrev uL (w:gm) (v:gG) (gx:la):Prop:=w.ownsRow 0 293 2 v gx.length (Ey gx)
mutual
def jD (w:gm):Tn->Nd->Prop
 | .el name gx ks,.el k=>∃av je kv ns,El 0 w k name av je kv ns/\uL w av gx/\gx.length<=4096/\rC w ks ns
 | .tx s,.tx k=>w.heap[k]?=some (gz #[gu s] 278)
 | .cm s,.cm k=>w.heap[k]?=some (gz #[gu s] 233)
 | .dt s,.dt k=>w.heap[k]?=some (gz #[gu s] 237)
 |_,_=>False
def rC (w:gm):List Tn->List Nd->Prop
 |[],[]=>True
 |t::ts,n::ns=>jD w t n/\rC w ts ns
 |_,_=>False
end
theorem rC.len:∀{d:List Tn} {ns:List Nd},rC w d ns->d.length=ns.length
 |[],[],_=>rfl
 |_::_,_::_,h=>by unfold rC at h;simp[rC.len h.2]
 |[],_::_,h=>by unfold rC at h;grind
 |_::_,[],h=>by unfold rC at h;grind
theorem rC.get:∀{d:List Tn} {ns:List Nd} (_:rC w d ns) (k:Nat) (f:k < d.length) (m:k < ns.length),jD w d[k] ns[k]
 |[],_,_,_,f,_=>by grind
 |_::_,[],h,_,_,_=>by grind
 |_::_,_::_,h,0,_,_=>by unfold rC at h;exact h.1
 |_::_,_::_,h,k+1,f,m=>by
  unfold rC at h;exact rC.get h.2 k (by grind) (by grind)
def Du (vd:fY->Bool):∀(a b:List Tn),sA vd (a++b)=sA vd a++sA vd b
 |[],b=>by rfl
 |t::a,b=>by simp[sA,Du vd a b]
def aey (vd:fY->Bool) (t:Tn):sA vd [t]=D6 vd t:=by simp[sA]
def WD (T:TypeId) (x:gG) (m:String) (args:jA) (w0:gm) (tot:List Ev) (J:List Ev->gm->Prop) (d:Ev) (r:gG):Prop:=
 ∃f y,(∀w,(Go.method 494 T x m).run prog w= .ok (f,y) w)/\(∀w,(nilAhead 494 T x m).run prog w= .ok (some false) w)/\(∀args w,(callFunc f args).run prog w= .ok (.enter f args) w)/\
  ∀pre W,Kept [] w0 W->J pre W->pre++[d] <+:tot->Calls prog f (#[y]++args) W λe W'=>e=ig r/\J (pre++[d]) W'/\Kept [] w0 W'
structure Vis (T:TypeId) (x:gG) (vd:fY->Bool) (tot:List Ev) (w0:gm) (J:List Ev->gm->Prop):Prop where
 mono:∀pre W W',J pre W->Kept [] W W'->J pre W'
 dt:∀s,WD T x "Doctype" #[gu s] w0 tot J (.dt s) (.tuple #[])
 cm:∀s,WD T x "Comment" #[gu s] w0 tot J (.cm s) (.tuple #[])
 tx:∀s,WD T x "Text" #[gu s] w0 tot J (.tx s) (.tuple #[])
 uj:∀s,WD T x "Leave" #[gu s] w0 tot J (.uj s) (.tuple #[])
 enter:∃f y,(∀w,(Go.method 494 T x "Enter").run prog w= .ok (f,y) w)/\(∀w,(nilAhead 494 T x "Enter").run prog w= .ok (some false) w)/\(∀args w,(callFunc f args).run prog w= .ok (.enter f args) w)/\
  ∀pre W s av gx,Kept [] w0 W->J pre W->pre++[.enter s gx] <+:tot->uL W av gx->gx.length<=4096->Calls prog f #[y,gu s,av] W λe W'=>(∃b,e=ig (.bool b)/\(b=(!vd s)\/b=false/\∀p,J p W'))/\J (pre++[.enter s gx]) W'/\Kept [] w0 W'
theorem ajz {x : gG} (V:Vis T x vd tot w0 J) (k:Nat) (s:fY) (pre:List Ev) (W:gm) (n:Kept [] w0 W) (m:J pre W) (H:pre++[.tx s] <+:tot) (r:W.heap[k]?=some (gz #[gu s] 278)):
  Calls prog 436 #[gE k,.iface T x] W λe W'=>e=pL/\J (pre++[.tx s]) W'/\Kept [] w0 W':=by
 have D:∀(d:Fn) (first cap:jA) (w:gm),(Instr.makeFunc d first cap).run prog w= .ok (.func d first cap) w:=λ_ _ _ _=>rfl;have⟨f,y,hm,hna,hcf,hc⟩:=V.tx s;have C:=(λq=>hc pre (W.drewN q) (n.drewN q) (V.mono _ _ _ m ((Kept.refl _ _).drewN q)) H);have h:=fN r 0;dsimp at h;generalize hJJ:J (pre++[.tx s])=I at C|-;go_enter func436,ntmps436;go_wp21
 go_region_with (refine(C _).mono ?_;rintro e N ⟨rfl,R,U⟩)
 all_goals (try go_wp2)
 all_goals (go_end0;grind)
theorem aa6 {x : gG} (V:Vis T x vd tot w0 J) (k:Nat) (s:fY) (pre:List Ev) (W:gm) (n:Kept [] w0 W) (m:J pre W) (H:pre++[.cm s] <+:tot) (r:W.heap[k]?=some (gz #[gu s] 233)):
  Calls prog 434 #[gE k,.iface T x] W λe W'=>e=pL/\J (pre++[.cm s]) W'/\Kept [] w0 W':=by
 have D:∀(d:Fn) (first cap:jA) (w:gm),(Instr.makeFunc d first cap).run prog w= .ok (.func d first cap) w:=λ_ _ _ _=>rfl;have⟨f,y,hm,hna,hcf,hc⟩:=V.cm s;have C:=(λq=>hc pre (W.drewN q) (n.drewN q) (V.mono _ _ _ m ((Kept.refl _ _).drewN q)) H);have h:=fN r 0;dsimp at h;generalize hJJ:J (pre++[.cm s])=I at C|-;go_enter func434,ntmps434;go_wp21
 go_region_with (refine(C _).mono ?_;rintro e N ⟨rfl,R,U⟩)
 all_goals (try go_wp2)
 all_goals (go_end0;grind)
theorem abd {x : gG} (V:Vis T x vd tot w0 J) (k:Nat) (s:fY) (pre:List Ev) (W:gm) (n:Kept [] w0 W) (m:J pre W) (H:pre++[.dt s] <+:tot) (r:W.heap[k]?=some (gz #[gu s] 237)):
  Calls prog 435 #[gE k,.iface T x] W λe W'=>e=pL/\J (pre++[.dt s]) W'/\Kept [] w0 W':=by
 have D:∀(d:Fn) (first cap:jA) (w:gm),(Instr.makeFunc d first cap).run prog w= .ok (.func d first cap) w:=λ_ _ _ _=>rfl;have⟨f,y,hm,hna,hcf,hc⟩:=V.dt s;have C:=(λq=>hc pre (W.drewN q) (n.drewN q) (V.mono _ _ _ m ((Kept.refl _ _).drewN q)) H);have h:=fN r 0;dsimp at h;generalize hJJ:J (pre++[.dt s])=I at C|-;go_enter func435,ntmps435;go_wp21
 go_region_with (refine(C _).mono ?_;rintro e N ⟨rfl,R,U⟩)
 all_goals (try go_wp2)
 all_goals (go_end0;grind)
def abR:(prog.info? 293).map (λi=>(i.zero,i.size,i.bytes))=some (some (.agg #[gu jB,gu jB]),2,32):=by kernel_rfl
theorem O7 (L:la):(Ey L).length=L.length*2:=by
 induction L with
 |nil=>rfl
 |cons a L ih=>grind
theorem ahm (v:gG) (L:la) (w:gm) (d:uL w v L) (hL:L.length<=4096):
  Calls prog 404 #[v] w λe w'=>∃v',e=ig v'/\uL w' v' L/\Kept [] w w':=by
 obtain⟨i0,hi,y,D,H⟩:=uH abR;rcases d.2 with⟨rfl,h0⟩|⟨g,cap,a0,rfl,a1,hg,_⟩
 .have hn:=λw=>Ug (P:=prog) w 132 293 none 0 0 0 0 underlying132;have:L=[]:=QB h0;subst this;clear d;go_enter func404,ntmps404;go_wp2;go_ret;exact⟨_,rfl,pk _ _ _ _,Kept.refl _ _⟩
 .have hn:=λw=>Ug (P:=prog) w 132 293 (some ⟨g,0,none⟩) L.length cap 0 0 underlying132;have Z:=fM d;have m:=iQ hg;have N:(w.alloc (.cells #[] 293)).ownsRow w.heap.size 293 2 (oo w.heap.size 0 0) 0 []:=
   ⟨rfl,.inr ⟨w.heap.size,0,#[],rfl,gL _,fP w _,gL _,iM _,rfl,rfl⟩⟩
  clear d;go_enter func404,ntmps404;go_wp2_with (at_builtin;refine ij _ rfl _ _ 132 rfl w.heap.size 293 i0 (.agg #[gu jB,gu jB]) 2 32 underlying132 hi y D H rfl (by decide) _ _ _ rfl N ⟨g,0,none⟩ L.length cap (Ey L) rfl ?c1 ?c2 ?c3 ?c4 ?c5 ?c6 ?_)
  case c1=>exact O7 L
  case c2=>
   intro j u hj;have:=Z.cells (g:=g) rfl j u hj;rw[jj]at this|-;rw[<-this];exact uJ _ _ _ m
  case c3=>
   intro u s;unfold Ey at s;simp at s;obtain⟨p,q,_,h|h⟩:=s<;>(subst h;rfl)
  case c4=>omega
  case c5=>omega
  case c6=>simp
  intro v' I n f a2;have V:I.ownsRow w.heap.size 293 2 v' L.length (Ey L):=by simpa using n
  have X:uL I v' L:=by
   refine⟨V.1,?_⟩;rcases V.2 with e|⟨g1,R,U,e,_,r⟩
   .exact .inl e
   .grind
  have Y:Hid (Kept [] w I):=((Kept.refl [] w).alloc _).grown f (λx hx=> .inr (N.lt x hx).1);go_wp2;go_ret;exact⟨_,rfl,X,Y⟩
theorem uL.kept (h:uL w v gx) (n:Kept [] w w'):uL w' v gx:=by
 refine⟨h.1,?_⟩;rcases h.2 with e|⟨g,cap,d,e,f,m,r⟩
 .grind
 .exact .inr ⟨g,cap,d,e,f,n.at m (by simp),r⟩
theorem El.ib {ns:List Nd} (h:El 0 w k name av je kv ns) (f:Kept [] w w'):El 0 w' k name av je kv ns:=by
 refine⟨f.at h.iw (by simp),⟨h.row.1,?_⟩,h.le,h.WJ⟩;rcases h.row.2 with e|⟨g,cap,d,e,m,n,r⟩
 .grind
 .exact .inr ⟨g,cap,d,e,m,f.at n (by simp),r⟩
mutual
theorem jD.kept (d:Kept [] w w'):∀{t:Tn} {n:Nd},jD w t n->jD w' t n
 | .el name gx ks,.el k,h=>by
  unfold jD at h|-;have⟨av,je,kv,ns,h1,h2,h3,h4⟩:=h;exact⟨av,je,kv,ns,h1.ib d,h2.kept d,h3,rC.kept d h4⟩
 | .tx _,.tx _,h=>by unfold jD at h|-;exact d.at h (by simp)
 | .cm _,.cm _,h=>by unfold jD at h|-;exact d.at h (by simp)
 | .dt _,.dt _,h=>by unfold jD at h|-;exact d.at h (by simp)
 | .el _ _ _,.tx _,h=>by grind[jD]
 | .el _ _ _,.cm _,h=>by grind[jD]
 | .el _ _ _,.dt _,h=>by grind[jD]
 | .tx _,.el _,h=>by grind[jD]
 | .tx _,.cm _,h=>by grind[jD]
 | .tx _,.dt _,h=>by grind[jD]
 | .cm _,.el _,h=>by grind[jD]
 | .cm _,.tx _,h=>by grind[jD]
 | .cm _,.dt _,h=>by grind[jD]
 | .dt _,.el _,h=>by grind[jD]
 | .dt _,.tx _,h=>by grind[jD]
 | .dt _,.cm _,h=>by grind[jD]
theorem rC.kept (f:Kept [] w w'):∀{d:List Tn} {ns:List Nd},rC w d ns->rC w' d ns
 |[],[],_=>by simp[rC]
 |t::d,n::ns,h=>by
  unfold rC at h|-;exact⟨jD.kept f h.1,rC.kept f h.2⟩
 |[],_::_,h=>by grind[rC]
 |_::_,[],h=>by grind[rC]
end
section
variable {T:TypeId} {x:gG} {vd:fY->Bool} {tot:List Ev} {w0:gm} {J:List Ev->gm->Prop}
def Ak:Nd->Nat
 | .el _=>403
 | .tx _=>436
 | .cm _=>434
 | .dt _=>435
def Nd.bk:Nd->Nat
 | .el k=>k
 | .tx k=>k
 | .cm k=>k
 | .dt k=>k
def I4 (T:TypeId) (x:gG) (vd:fY->Bool) (tot:List Ev) (w0:gm) (J:List Ev->gm->Prop) (t:Tn) (n:Nd):Prop:=
 ∀pre W,Kept [] w0 W->J pre W->pre++D6 vd t <+:tot->
  Calls prog (Ak n) #[gE n.bk,.iface T x] W λe W'=>e=pL/\J (pre++D6 vd t) W'/\Kept [] w0 W'
def NN (n:Nd) (w:gm):∃t y,n.val= .iface t y/\y=gE n.bk/\(∀w,(Go.method 494 t y "Visit").run prog w= .ok (Ak n,y) w):=by
 cases n with
 |el k=>exact⟨_,_,rfl,rfl,λw=>by kernel_rfl⟩
 |tx k=>exact⟨_,_,rfl,rfl,λw=>by kernel_rfl⟩
 |cm k=>exact⟨_,_,rfl,rfl,λw=>by kernel_rfl⟩
 |dt k=>exact⟨_,_,rfl,rfl,λw=>by kernel_rfl⟩
def Zv (n:Nd):∀d w,(callFunc (Ak n) d).run prog w= .ok (.enter (Ak n) d) w:=by
 cases n with
 |el k=>simp[Ak]
 |tx k=>simp[Ak]
 |cm k=>simp[Ak]
 |dt k=>simp[Ak]
theorem VD {a b c:List Ev} (h:a++(b++c) <+:tot):a++b <+:tot:=by
 have⟨r,hr⟩:=h;grind
theorem GZ (V:Vis T x vd tot w0 J) (k:Nat) (name:fY) (av:gG) (je:iY) (kv:gG) (d:List Tn) (ns:List Nd) (hl:d.length=ns.length)
  (r:El 0 w0 k name av je kv ns) (hv:∀i (H:i < d.length) (s:i < ns.length),I4 T x vd tot w0 J d[i] ns[i]) (pre:List Ev) (W:gm) (hK:Kept [] w0 W) (hJ:J pre W) (hp:pre++sA vd d <+:tot):
  Calls prog 33 #[gE k,.iface T x] W λe W'=>e=pL/\J (pre++sA vd d) W'/\Kept [] w0 W':=by
 have c3:=fN ((r.ib hK).iw) 3;dsimp at c3;have N:=r.le;have⟨ao,cap,hkv⟩:=gw r.row;have X:=fM r;have HV:=hv;have HP:=hp;have HJ:=hJ;have HK:=hK;have Y:=fM hl;obtain⟨n,U⟩:∃n,n=ns.length:=⟨_,rfl⟩;have HN:=fM U;subst hkv;rw[<-U]at c3 N;clear r hl U;go_enter func33,ntmps33;go_wp21
 go_loopw [11] (λv wr=>∃i:Nat,v=fV i/\i<=n/\J (pre++sA vd (d.take i)) wr/\Kept [] w0 wr) (λv _=>n - (intOf v).toNat)
 case atStart=>grind[sA]
 case round=>
  obtain⟨i,rfl,hi,m,f⟩:=hrel;by_cases R:i < n
  .have s:i < ns.length:=by rw[<-HN.out];exact R
   have H:i < d.length:=by rw[Y.out];exact s
   have⟨t,y,hval,hy,hm⟩:=NN ns[i] wr;have a3:=Zv ns[i];obtain⟨g,I⟩:∃g,ao=some ⟨g,0,none⟩:=by
    rcases X.row.2 with⟨e,h0⟩|⟨g,a0,a2,e,_⟩
    all_goals grind
   subst I;have hc:wr.cell? ⟨g,i,none⟩=some (.iface t y):=by
    have:=(X.ib f).row.cells (g:=g) rfl i ns[i].val (by simp[s]);rw[jj]at this;rw[<-hval]
    simpa using this
   have h:sA vd (d.take (i+1))=sA vd (d.take i)++D6 vd d[i]:=by
    rw[FP,qs H,Du];simp[aey]
   have a1:pre++sA vd (d.take (i+1)) <+:tot:=by
    refine VD (c:=sA vd (d.drop (i+1))) ?_;rw[<-Du,FT];exact HP
   have C:=HV i H s _ wr f m (by grind);rw[wA,<-h]at C;rw[hy]at hc hm;generalize Ak ns[i]=fv at *;generalize ns[i].bk=kb at *;generalize hZ:J (pre++sA vd (d.take (i+1)))=Z at C;have HZ:=fM hZ;clear hZ;go_wp21;refine C.mono ?_;rintro e W2 ⟨rfl,D,q⟩;go_wp2;go_roundw
   case rel=>exact⟨i+1,by go_num,by omega,by rw[HZ.out];exact D,q⟩
   case measure=>simp[intOf];omega
  .have he:d.take i=d:=BG (by rw[Y.out,<-HN.out];omega);rw[he]at m;have q:=f;go_wp2;go_end0;grind
theorem abf (V:Vis T x vd tot w0 J) (k:Nat) (name:fY) (gx:la) (av:gG) (je:iY) (kv:gG) (s:List Tn) (ns:List Nd) (hl:s.length=ns.length)
  (hE:El 0 w0 k name av je kv ns) (hA:uL w0 av gx) (U:gx.length<=4096) (hv:∀i (h1:i < s.length) (h2:i < ns.length),I4 T x vd tot w0 J s[i] ns[i]):I4 T x vd tot w0 J (.el name gx s) (.el k):=by
 intro pre W D hJ hp;show Calls prog 403 #[gE k,.iface T x] W _;have aa:∀(fn:Fn) (first cap:jA) (w:gm),(Instr.makeFunc fn first cap).run prog w= .ok (.func fn first cap) w:=λ_ _ _ _=>rfl;have c0:=fN ((hE.ib D).iw) 0;have c1:=fN ((hE.ib D).iw) 1;dsimp at c0 c1;have a1:pre++[.enter name gx] <+:tot:=by
  unfold D6 at hp;exact VD (b:=[.enter name gx]) (by simpa using hp)
 have⟨f,y,hm,hna,hcf,hc⟩:=V.enter;have C1:=fM (λq=>ahm av gx (W.drewN q) ((hA.kept D).kept ((Kept.refl _ _).drewN q)) U);have C2:=fM (λq W1 v1 (X:Kept [] (W.drewN q) W1) (ha:uL W1 v1 gx)=>hc pre W1 name v1 gx ((D.drewN q).trans X) (V.mono _ _ _ hJ (((Kept.refl _ _).drewN q).trans X)) a1 ha U);have⟨ao,n,cp,hav⟩:=hE.WJ;subst hav;have HV:=fM V;have HE:=fM hE;have HW:=fM hv;have HP:=fM hp;have HL:=fM hl;have a7:=fM D;clear hc V D hJ hp a1 hA U hE hv hl;go_enter func403,ntmps403;go_wp21
 go_cut [17]from 4 to 16 (λr wc=>(∃b,r= .bool b/\(b=(!vd name)\/b=false/\∀p,J p wc))/\J (pre++[.enter name gx]) wc/\Kept [] w0 wc)
 case first=>
  go_region_with (first
   |(go_at_call 404;refine(C1.out _).mono ?_;rintro e W1 ⟨v1,rfl,R,Y⟩;have⟨ao1,cp1,hv1⟩:=gw R;subst hv1;have a4:=fM R;have a6:=fM Y;have c2:W1.cell? ⟨k,0,none⟩=some (gu name):=(by rw[fN (HE.out.ib ((a7.out.drewN _).trans Y)).iw];rfl);clear R Y)
   |(refine(C2.out _ _ _ a6.out a4.out).mono ?_;rintro e W2 ⟨⟨bb,rfl,a0⟩,m,d⟩;have a5:=fM a0;have I:=fM m;have N:=fM d;clear a0 m d))
  all_goals (try (go_wp21))
  all_goals (go_meet;exact⟨⟨bb,rfl,a5.out⟩,I.out,N.out⟩)
 case rest=>
  obtain⟨⟨bb,rfl,H⟩,hj,X⟩:=hcut;clear C1 C2 hm hna hcf c0 c1;cases bb with
  |false=>
   replace hj:J (pre++D6 vd (.el name gx s)) wc:=by
    rcases H with H|⟨_,H⟩
    .have Z:vd name=true:=by
      cases h:vd name
      .grind
      .rfl
     have he:pre++D6 vd (.el name gx s)=pre++[.enter name gx]:=by simp[D6,Z]
     rw[he];exact hj
    .exact H _
   clear H;have HJ:=fM hj;have HK:=fM X;clear hj X;rename_i K D;refine D _ _ ?_;clear D;go_wp2;go_end0;exact⟨rfl,HJ.out,HK.out⟩
  |true=>
   have Z:vd name=false:=by
    rcases H with H|⟨H,_⟩
    .grind
    .cases H
   clear H;have he:D6 vd (.el name gx s)= .enter name gx::(sA vd s++[.uj name]):=by simp[D6,Z]
   have a2:(pre++[.enter name gx])++sA vd s <+:tot:=VD (c:=[.uj name]) (by have:=HP.out;grind);have a3:(pre++[.enter name gx]++sA vd s)++[.uj name] <+:tot:=by have:=HP.out;rw[he]at this;simpa using this
   have e3:pre++D6 vd (.el name gx s)=(pre++[.enter name gx]++sA vd s)++[.uj name]:=by rw[he];simp
   have C3:=fM (GZ HV.out k name _ je kv s ns HL.out HE.out HW.out _ wc X hj a2);have⟨f,y,hm,hna,hcf,hc⟩:=HV.out.uj name;have C4:=fM (λq W2 (d:Kept [] w0 W2) (m:J (pre++[.enter name gx]++sA vd s) W2)=>hc _ (W2.drewN q) (d.drewN q) (HV.out.mono _ _ _ m ((Kept.refl _ _).drewN q)) a3);rw[<-e3]at C4;clear a2 a3 he e3 hj X hc;generalize hJJ:J (pre++[.enter name gx]++sA vd s)=J1 at C3 C4;clear hJJ;rename_i K D;refine D _ _ ?_;clear D;go_wp21;refine C3.out.mono ?_;rintro e W2 ⟨rfl,m,d⟩;have c0:=fN ((HE.out.ib d).iw) 0;dsimp at c0;have I:=fM m;have N:=fM d;clear m d;go_wp21
   go_region_with (refine(C4.out _ _ N.out I.out).mono ?_;rintro e W3 ⟨rfl,a8,a9⟩)
   all_goals (try go_wp2)
   all_goals (go_end0;grind)
end
section
variable {T:TypeId} {x:gG} {vd:fY->Bool} {tot:List Ev} {w0:gm} {J:List Ev->gm->Prop}
theorem TY (V:Vis T x vd tot w0 J):∀(t:Tn) (n:Nd),jD w0 t n->I4 T x vd tot w0 J t n
 | .el name gx ks,.el k,h=>by
  unfold jD at h;have⟨av,je,kv,ns,h1,h2,h3,h4⟩:=h;exact abf V k name gx av je kv ks ns h4.len h1 h2 h3 (λi q r=>TY V ks[i] ns[i] (h4.get i q r))
 | .tx s,.tx k,h=>by
  unfold jD at h;intro pre W d m f;unfold D6 at f|-;exact ajz V k s pre W d m f (d.at h (by simp))
 | .cm s,.cm k,h=>by
  unfold jD at h;intro pre W d m f;unfold D6 at f|-;exact aa6 V k s pre W d m f (d.at h (by simp))
 | .dt s,.dt k,h=>by
  unfold jD at h;intro pre W d m f;unfold D6 at f|-;exact abd V k s pre W d m f (d.at h (by simp))
 | .el _ _ _,.tx _,h=>by unfold jD at h;grind
 | .el _ _ _,.cm _,h=>by unfold jD at h;grind
 | .el _ _ _,.dt _,h=>by unfold jD at h;grind
 | .tx _,.el _,h=>by unfold jD at h;grind
 | .tx _,.cm _,h=>by unfold jD at h;grind
 | .tx _,.dt _,h=>by unfold jD at h;grind
 | .cm _,.el _,h=>by unfold jD at h;grind
 | .cm _,.tx _,h=>by unfold jD at h;grind
 | .cm _,.dt _,h=>by unfold jD at h;grind
 | .dt _,.el _,h=>by unfold jD at h;grind
 | .dt _,.tx _,h=>by unfold jD at h;grind
 | .dt _,.cm _,h=>by unfold jD at h;grind
  termination_by t=>SizeOf.sizeOf t
  decreasing_by
 have:=List.sizeOf_lt_of_mem (uG q);grind
theorem zo (V:Vis T x vd tot w0 J) (k:Nat) (name:fY) (gx:la) (d:List Tn) (h:jD w0 (.el name gx d) (.el k)) (n:sA vd d=tot) (W:gm) (m:Kept [] w0 W) (f:J [] W):
  Calls prog 33 #[gE k,.iface T x] W λe W'=>e=pL/\J tot W'/\Kept [] w0 W':=by
 unfold jD at h;have⟨av,je,kv,ns,h1,h2,h3,h4⟩:=h;have:=GZ V k name av je kv d ns h4.len h1 (λi q r=>TY V d[i] ns[i] (h4.get i q r)) [] W m f (by grind)
 rwa [rp,n]at this
end
attribute [local go_sem] Oper.semAt_some
structure It where
 k:Int
 s:fY
 t:fY
abbrev It.val (x:It):gG:= .agg #[fV x.k,gu x.s,gu x.t]
def ui:Ev->List It
 | .dt s=>[⟨1,s,⟨#[]⟩⟩]
 | .cm s=>[⟨2,s,⟨#[]⟩⟩]
 | .tx s=>[⟨3,s,⟨#[]⟩⟩]
 | .enter s gx=>⟨4,s,⟨#[]⟩⟩::gx.map λa=>⟨5,a.1,a.2⟩
 | .uj s=>[⟨6,s,⟨#[]⟩⟩]
def jI (d:List Ev):List It:=d.flatMap ui
def Wk (w:gm) (b l:Nat) (d:Bool):Prop:=w.heap[b]?=some (gz #[.func (.yield l) #[] #[],.bool d] 198)
theorem oP {m : Nat×Nat} (h:w.heap[b]?=some (.cells c t m)) (j:Nat) (v:gG) (n:c[j]?=some v):w.setCell ⟨b,j,none⟩ v=w:=by
 have⟨hlt,hb⟩:=Array.getElem?_eq_some_iff.1 h;have q:c.setIfInBounds j v=c:=by
  apply Array.ext
  .simp
  .grind
 have e:∀f:Obj->Obj,f (.cells c t m)= .cells c t m->w.heap.modify b f=w.heap:=by
  intro f d;apply Array.ext
  .simp
  .grind
 unfold World.setCell;simp_all
def KW (W W':gm):Prop:=∀(k:Nat) (c:jA) (t:TypeId),W.heap[k]?=some (gz c t)->t∈[198,293]->W'.heap[k]?=some (gz c t)
def KW.wk (h:KW W W') {d : Bool} (f:Wk W b l d):Wk W' b l d:=h b _ _ f (by decide)
theorem KW.atr (h:KW W W') (f:uL W v gx):uL W' v gx:=by
 refine⟨f.1,?_⟩;rcases f.2 with e|⟨g,cap,d,e,m,n,r⟩
 .grind
 .exact .inr ⟨g,cap,d,e,m,h g _ _ n (by decide),r⟩
theorem Wk.atr {d : Bool} (h:Wk W b l d) (x:gG) (m:uL W v gx):uL (W.setCell ⟨b,1,none⟩ x) v gx:=by
 refine⟨m.1,?_⟩;rcases m.2 with e|⟨g,cap,f,e,q,n,r⟩
 .grind
 .refine .inr ⟨g,cap,f,e,q,((Kept.refl [b] W).setCell (.inl (by simp)) _).at n ?_,r⟩;intro s;have e:=List.mem_singleton.1 s;subst e;rw[show W.heap[g]?=_ from h]at n;grind
def Rnd (l:Nat) (tot:List It) (w0:gm) (J:List It->gm->Prop) (JE:gm->Prop):Prop:=∀pre x W,Kept [] w0 W->J pre W->pre++[x] <+:tot->YieldAt Fence.wide 3 prog l #[It.val x] W λe W'=>(e=ig (.bool true)/\J (pre++[x]) W'\/e=ig (.bool false)/\JE W')/\Kept [] w0 W'/\KW W W'
def JW (l b:Nat) (J:List It->gm->Prop) (JE:gm->Prop) (pre:List It) (W:gm):Prop:=(J pre W/\Wk W b l false)\/(JE W/\Wk W b l true)
def JW.mono {J : List It->gm->Prop} {JE : gm->Prop} (m:∀pre W W',J pre W->Kept [] W W'->J pre W') (f:∀W W',JE W->Kept [] W W'->JE W') {pre : List It} (h:JW l b J JE pre W) (d:Kept [] W W'):JW l b J JE pre W':=by
 rcases h with⟨h,k⟩|⟨h,k⟩
 .exact .inl ⟨m _ _ _ h d,d.at k (by simp)⟩
 .exact .inr ⟨f _ _ h d,d.at k (by simp)⟩
section
variable {l b:Nat} {tot:List It} {w0:gm} {J:List It->gm->Prop} {JE:gm->Prop}
def Cg (X:Rnd l tot w0 J JE) (Y:w0.heap.size<=b) (D:∀V,Wk V b l false->JE V->JE (V.setCell ⟨b,1,none⟩ (.bool true))) (pre:List It) (x:It) (W:gm) (N:Kept [] w0 W) (y:JW l b J JE pre W) (hp:pre++[x] <+:tot):
  Calls prog 433 #[gE b,fV x.k,gu x.s,gu x.t] W λe W'=>e=pL/\(JW l b J JE (pre++[x]) W'/\Kept [] w0 W')/\∀v gx,uL W v gx->uL W' v gx:=by
 refine(BI (n:=4)).1 ?_;rcases y with⟨y,q⟩|⟨y,q⟩
 .have c0:=fN q 0;have R:=fN q 1;dsimp at c0 R;have⟨fn,tmps,assign,body,hy,hR⟩:=X pre x W N y hp;have HR:=fM hR;dsimp only[It.val]at hy;have Z:=iQ q;have HW:=fM q;have HM:=fM D;have HB:=fM Y;clear hR X N y hp q D Y;have⟨k,s,t⟩:=x;refine callsIn_of_wp func433 rfl trivial ?_ rfl;simp only[ntmps433,xQ,rn,uI,Nat.reduceAdd,Nat.reduceSub,xR,xS,xU,xV,rp,tU];gi_wp2;refine HR.out.mono ?_;rintro e H ⟨⟨rfl,m⟩|⟨rfl,m⟩,r,f⟩
  .have d:=f.wk HW.out;have U:=fN d 1;have f2:=gh d 1;dsimp at U;have HS:=fM (oP d 1 (.bool false) rfl);have I:=fM (show(JW l b J JE (pre++[⟨k,s,t⟩]) H/\Kept [] w0 H)/\∀v gx,uL W v gx->uL H v gx from⟨⟨.inl ⟨m,d⟩,r⟩,λ_ _ h=>f.atr h⟩);clear m r f d;gi_wp2;go_end0;rw[HS.out];exact⟨rfl,I.out⟩
  .have d:=f.wk HW.out;have U:=fN d 1;have f2:=gh d 1;dsimp at U;have I:=fM (show(JW l b J JE (pre++[⟨k,s,t⟩]) (H.setCell ⟨b,1,none⟩ (.bool true))/\Kept [] w0 (H.setCell ⟨b,1,none⟩ (.bool true)))/\∀v gx,uL W v gx->uL (H.setCell ⟨b,1,none⟩ (.bool true)) v gx from⟨⟨.inr ⟨HM.out _ d m,fR d 1 _⟩,r.setCell (.inr HB.out) _⟩,λ_ _ h=>d.atr _ (f.atr h)⟩);clear m r f d;gi_wp2;go_end0;exact⟨rfl,I.out⟩
 .have R:=fN q 1;dsimp at R;have Z:=iQ q;have I:=fM (show(JW l b J JE (pre++[x]) W/\Kept [] w0 W)/\∀v gx,uL W v gx->uL W v gx from⟨⟨.inr ⟨y,q⟩,N⟩,λ_ _ h=>h⟩);clear X N y hp q D Y;refine callsIn_of_wp func433 rfl trivial ?_ rfl;simp only[ntmps433,xQ,rn,uI,Nat.reduceAdd,Nat.reduceSub,xR,xS,xU,xV,rp,tU];gi_wp2;go_end0;exact⟨rfl,I.out⟩
def wdt (m:Rnd l tot w0 J JE) (n:w0.heap.size<=b) (d:∀V,Wk V b l false->JE V->JE (V.setCell ⟨b,1,none⟩ (.bool true))) (s:fY) (pre:List It) (W:gm) (h:Kept [] w0 W) (f:JW l b J JE pre W) (r:pre++[⟨1,s,⟨#[]⟩⟩] <+:tot):
  Calls prog 429 #[gE b,gu s] W λe W'=>e=pL/\JW l b J JE (pre++[⟨1,s,⟨#[]⟩⟩]) W'/\Kept [] w0 W':=by
 have C:=fM (Cg m n d pre ⟨1,s,⟨#[]⟩⟩ W h f r);clear m h f r n d;generalize JW l b J JE (pre++[⟨1,s,⟨#[]⟩⟩])=D at C|-;go_enter func429,ntmps429;go_wp21;refine C.out.mono ?_;rintro e H ⟨rfl,q,_⟩;have y:=fM q;clear q;go_wp2;go_end0;exact⟨rfl,y.out⟩
def wcm (m:Rnd l tot w0 J JE) (n:w0.heap.size<=b) (d:∀V,Wk V b l false->JE V->JE (V.setCell ⟨b,1,none⟩ (.bool true))) (s:fY) (pre:List It) (W:gm) (h:Kept [] w0 W) (f:JW l b J JE pre W) (r:pre++[⟨2,s,⟨#[]⟩⟩] <+:tot):
  Calls prog 428 #[gE b,gu s] W λe W'=>e=pL/\JW l b J JE (pre++[⟨2,s,⟨#[]⟩⟩]) W'/\Kept [] w0 W':=by
 have C:=fM (Cg m n d pre ⟨2,s,⟨#[]⟩⟩ W h f r);clear m h f r n d;generalize JW l b J JE (pre++[⟨2,s,⟨#[]⟩⟩])=D at C|-;go_enter func428,ntmps428;go_wp21;refine C.out.mono ?_;rintro e H ⟨rfl,q,_⟩;have y:=fM q;clear q;go_wp2;go_end0;exact⟨rfl,y.out⟩
def wtx (m:Rnd l tot w0 J JE) (n:w0.heap.size<=b) (d:∀V,Wk V b l false->JE V->JE (V.setCell ⟨b,1,none⟩ (.bool true))) (s:fY) (pre:List It) (W:gm) (h:Kept [] w0 W) (f:JW l b J JE pre W) (r:pre++[⟨3,s,⟨#[]⟩⟩] <+:tot):
  Calls prog 432 #[gE b,gu s] W λe W'=>e=pL/\JW l b J JE (pre++[⟨3,s,⟨#[]⟩⟩]) W'/\Kept [] w0 W':=by
 have C:=fM (Cg m n d pre ⟨3,s,⟨#[]⟩⟩ W h f r);clear m h f r n d;generalize JW l b J JE (pre++[⟨3,s,⟨#[]⟩⟩])=D at C|-;go_enter func432,ntmps432;go_wp21;refine C.out.mono ?_;rintro e H ⟨rfl,q,_⟩;have y:=fM q;clear q;go_wp2;go_end0;exact⟨rfl,y.out⟩
def wlv (m:Rnd l tot w0 J JE) (n:w0.heap.size<=b) (d:∀V,Wk V b l false->JE V->JE (V.setCell ⟨b,1,none⟩ (.bool true))) (s:fY) (pre:List It) (W:gm) (h:Kept [] w0 W) (f:JW l b J JE pre W) (r:pre++[⟨6,s,⟨#[]⟩⟩] <+:tot):
  Calls prog 431 #[gE b,gu s] W λe W'=>e=pL/\JW l b J JE (pre++[⟨6,s,⟨#[]⟩⟩]) W'/\Kept [] w0 W':=by
 have C:=fM (Cg m n d pre ⟨6,s,⟨#[]⟩⟩ W h f r);clear m h f r n d;generalize JW l b J JE (pre++[⟨6,s,⟨#[]⟩⟩])=D at C|-;go_enter func431,ntmps431;go_wp21;refine C.out.mono ?_;rintro e H ⟨rfl,q,_⟩;have y:=fM q;clear q;go_wp2;go_end0;exact⟨rfl,y.out⟩
def MC (a b:List Ev):jI (a++b)=jI a++jI b:=On ..
def xy {a b:List Ev} (h:a <+:b):jI a <+:jI b:=by
 obtain⟨r,rfl⟩:=h;simp[jI]
theorem Nw (L:la) (i:Nat) (h:i < L.length):(Ey L)[i*2]?=some (gu L[i].1)/\(Ey L)[i*2+1]?=some (gu L[i].2):=by
 induction L generalizing i with
 |nil=>simp at h
 |cons a L ih=>
  cases i with
  |zero=>simp
  |succ i=>
   grind
theorem wen (hY:Rnd l tot w0 J JE) (hb:w0.heap.size<=b) (I:∀V,Wk V b l false->JE V->JE (V.setCell ⟨b,1,none⟩ (.bool true))) (hm:∀pre W W',J pre W->Kept [] W W'->J pre W') (X:∀W W',JE W->Kept [] W W'->JE W') (s:fY) (av:gG) (gx:la) (pre:List It) (W:gm) (hK:Kept [] w0 W) (hJ:JW l b J JE pre W) (hp:pre++ui (.enter s gx) <+:tot) (hA:uL W av gx) (a7:gx.length<=4096):
  Calls prog 430 #[gE b,gu s,av] W λe W'=>(∃d,e=ig (.bool d)/\(d=true\/d=false/\∀p,JW l b J JE p W'))/\JW l b J JE (pre++ui (.enter s gx)) W'/\Kept [] w0 W':=by
 have Y:pre++[(⟨4,s,⟨#[]⟩⟩:It)] <+:tot:=by
  have⟨r,hr⟩:=hp;exact⟨_,by rw[<-hr];simp[ui];rfl⟩
 have C:=fM (Cg hY hb I pre ⟨4,s,⟨#[]⟩⟩ W hK hJ Y);have⟨ao,cap,hav⟩:=gw hA;have HA:=fM hA;have HP:=fM hp;have HY:=fM hY;have HM:=fM hm;have a5:=fM X;have a6:=fM I;have HB:=fM hb;obtain⟨n,hn⟩:∃n,n=gx.length:=⟨_,rfl⟩;rw[<-hn]at a7 hav;have HN:=fM hn;subst hav;clear hY hK hJ hp Y hA hm hn hb I X;go_enter func430,ntmps430;go_wp21;refine C.out.mono ?_;rintro e W2 ⟨rfl,⟨f,m⟩,Z⟩;have a0:=fM (Z _ _ HA.out);have a3:=fM f;have a4:=fM m;clear f m Z C HA;go_wp21
 go_loopw [14] (λv wr=>∃i:Nat,v=fV i/\i<=n/\JW l b J JE (pre++(⟨4,s,⟨#[]⟩⟩::(gx.take i).map λa=>(⟨5,a.1,a.2⟩:It))) wr/\Kept [] w0 wr/\uL wr (.slice ao n cap) gx) (λv _=>n - (intOf v).toNat)
 case atStart=>exact⟨0,rfl,iM _,by simpa using a3.out,a4.out,a0.out⟩
 case round=>
  obtain⟨i,rfl,hi,f,m,R⟩:=hrel;by_cases aa:i < n
  .have h1:i < gx.length:=by rw[<-HN.out];exact aa
   obtain⟨g,a8⟩:∃g,ao=some ⟨g,0,none⟩:=by
    rcases R.2 with⟨e,h0⟩|⟨g,ab,ac,e,_⟩
    all_goals grind
   subst a8;have ad:wr.cell? ⟨g,i*2,none⟩=some (gu gx[i].1):=by
    have:=R.cells (g:=g) rfl (i*2) _ (Nw gx i h1).1;rw[jj]at this
    simpa using this
   have ae:wr.cell? ⟨g,i*2+1,none⟩=some (gu gx[i].2):=by
    have:=R.cells (g:=g) rfl (i*2+1) _ (Nw gx i h1).2;rw[jj]at this
    simpa using this
   have h:(pre++(⟨4,s,⟨#[]⟩⟩::(gx.take i).map λa=>(⟨5,a.1,a.2⟩:It)))++[⟨5,gx[i].1,gx[i].2⟩]=pre++(⟨4,s,⟨#[]⟩⟩::(gx.take (i+1)).map λa=>(⟨5,a.1,a.2⟩:It)):=by
    have:(gx.take (i+1))=gx.take i++[gx[i]]:=by rw[FP,qs h1];rfl
    rw[this,se];simp only[wA,tU,yH,List.map_nil]
   have D:(pre++(⟨4,s,⟨#[]⟩⟩::(gx.take i).map λa=>(⟨5,a.1,a.2⟩:It)))++[⟨5,gx[i].1,gx[i].2⟩] <+:tot:=by
    rw[h];have⟨r,hr⟩:=HP.out;refine⟨((gx.drop (i+1)).map λa=>(⟨5,a.1,a.2⟩:It))++r,?_⟩;rw[<-hr];have e:=si (List.map λa:fY×fY=>(⟨5,a.1,a.2⟩:It)) (FT (i+1) gx);rw[se]at e;show _=pre++(⟨4,s,⟨#[]⟩⟩::gx.map λa=>(⟨5,a.1,a.2⟩:It))++r;rw[<-e];simp only[wA,tU]
   have kk:∀o,Kept [] wr (wr.alloc o):=λo=>(Kept.refl [] wr).alloc o;have CT:=fM (λo=>Cg HY.out HB.out a6.out _ ⟨5,gx[i].1,gx[i].2⟩ (wr.alloc o) (m.trans (kk o)) (JW.mono HM.out a5.out f (kk o)) D);have U:=fM (λo=>R.kept (kk o));simp only[h]at CT;generalize gx[i].1=u1 at *;generalize gx[i].2=u2 at *;clear h D kk f m R;go_wp21;refine(CT.out _).mono ?_;rintro e W3 ⟨rfl,⟨f,m⟩,Z⟩;have q:=fM f;have y:=fM m;have a1:=fM (Z _ _ (U.out _));clear f m Z CT U;go_wp2;go_roundw
   case rel=>exact⟨i+1,by go_num,by omega,q.out,y.out,a1.out⟩
   case measure=>simp[intOf];omega
  .have he:gx.take i=gx:=BG (by rw[<-HN.out];omega);rw[he]at f;have q:=fM f;have y:=fM m;clear m R he;rcases f with⟨f,H⟩|⟨f,H⟩
   .have N:=fN H 1;dsimp at N;have a9:=iQ H;clear f H;go_wp2;go_ret;exact⟨⟨_,rfl,.inl rfl⟩,q.out,y.out⟩
   .have N:=fN H 1;dsimp at N;have a9:=iQ H;have a2:=fM (λp=>(show JW l b J JE p wr from .inr ⟨f,H⟩));clear f H;go_wp2;go_ret;exact⟨⟨_,rfl,.inr ⟨rfl,a2.out⟩⟩,q.out,y.out⟩
end
theorem Wl (l b:Nat) (tot:List Ev) (w0:gm) (J:List It->gm->Prop) (JE:gm->Prop) (r:Rnd l (jI tot) w0 J JE) (y:w0.heap.size<=b) (f:∀V,Wk V b l false->JE V->JE (V.setCell ⟨b,1,none⟩ (.bool true))) (N:∀pre W W',J pre W->Kept [] W W'->J pre W') (D:∀W W',JE W->Kept [] W W'->JE W'):
  Vis 196 (gE b) (λ_=>false) tot w0 (λpre W=>JW l b J JE (jI pre) W):=by
 have one:∀pre H,jI (pre++[H])=jI pre++ui H:=λpre H=>by simp[jI]
 refine {mono:=λpre W W' h U=>h.mono N D U,dt:=λs=>?_,cm:=λs=>?_,tx:=λs=>?_,uj:=λs=>?_,enter:=?_}
 .refine⟨429,gE b,λw=>by kernel_rfl,λw=>by kernel_rfl,enters_of func429 (by rfl) rfl,λpre W n m q=>?_⟩;have d:=xy q;rw[one]at d
  try simp only[]
  rw[one];exact wdt r y f s _ W n m d
 .refine⟨428,gE b,λw=>by kernel_rfl,λw=>by kernel_rfl,enters_of func428 (by rfl) rfl,λpre W n m q=>?_⟩;have d:=xy q;rw[one]at d
  try simp only[]
  rw[one];exact wcm r y f s _ W n m d
 .refine⟨432,gE b,λw=>by kernel_rfl,λw=>by kernel_rfl,enters_of func432 (by rfl) rfl,λpre W n m q=>?_⟩;have d:=xy q;rw[one]at d
  try simp only[]
  rw[one];exact wtx r y f s _ W n m d
 .refine⟨431,gE b,λw=>by kernel_rfl,λw=>by kernel_rfl,enters_of func431 (by rfl) rfl,λpre W n m q=>?_⟩;have d:=xy q;rw[one]at d
  try simp only[]
  rw[one];exact wlv r y f s _ W n m d
 .refine⟨430,gE b,λw=>by kernel_rfl,λw=>by kernel_rfl,enters_of func430 (by rfl) rfl,λpre W s av gx n m q R I=>?_⟩;have d:=xy q;rw[one]at d
  try simp only[]
  rw[one];refine(wen r y f N D s av gx _ W n m d R I).mono ?_;grind
attribute [local go_sem] Oper.semAt_some
def Yn (w:gm) (d:Nat) (c:jA) (k:Nat):Prop:=w.heap[d]?=some (gz c 69)/\c[8]?=some (gE k)
def Yn.kept {d : Nat} (h:Yn w d c k) (f:Kept [] w w'):Yn w' d c k:=⟨f.at h.1 (by simp),h.2⟩
def Yn.ye {d : Nat} (h:Yn w d c k):w.cell? ⟨d,8,none⟩=some (gE k):=by rw[fN h.1,h.2]
def Ho (w:gm) (d k:Nat) (c:jA) (h:Yn w d c k):
  Calls prog 22 #[gE d] w λe w'=>e=ig (.bool true)/\w'=w:=by
 have m:=h.ye;have f:=iQ h.1;go_enter func22,ntmps22;go_wp2;go_ret;simp
def NJ (w:gm) (d:Nat):
  Calls prog 21 #[gE d] w λe w'=>e=ig (.func (.func 30) #[gE d] #[])/\w'=w:=by
 have h:∀(f:Fn) (first cap:jA) (w:gm),(Instr.makeFunc f first cap).run prog w= .ok (.func f first cap) w:=λ_ _ _ _=>rfl;go_enter func21,ntmps21;go_wp2;go_ret;simp
def aeO (l k:Nat) (name:fY) (gx:la) (m:List Tn) (w0:gm) (h:jD w0 (.el name gx m) (.el k)) (J:List It->gm->Prop) (JE:gm->Prop) (D:Rnd l (jI (sA (λ_=>false) m)) w0 J JE) (q:∀pre W W',J pre W->Kept [] W W'->J pre W') (d:∀W W',JE W->Kept [] W W'->JE W') (W:gm) (f:∀V b,W.heap.size<=b->Wk V b l false->JE V->JE (V.setCell ⟨b,1,none⟩ (.bool true))) (n:Kept [] w0 W) (y:J [] W):
  Calls prog 52 #[gE k,.func (.yield l) #[] #[]] W λe W'=>e=pL/\(J (jI (sA (λ_=>false) m)) W'\/JE W')/\Kept [] w0 W':=by
 have r:=(Kept.refl [] W).alloc (gz #[.func (.yield l) #[] #[],.bool false] 198);have N:=fP W (gz #[.func (.yield l) #[] #[],.bool false] 198);have C:=fM (zo (Wl l W.heap.size _ w0 J JE D n.size (λV=>f V _ (gL _)) q d) k name gx m h rfl _ (n.trans r) (.inl ⟨q _ _ _ y r,N⟩));clear h D q d f n y r N;generalize jI (sA (λ_=>false) m)=X at C|-;go_enter func52,ntmps52;go_wp2_with fail;refine C.out.mono ?_;rintro e s ⟨rfl,H,I⟩;have R:=fM (show J X s\/JE s from H.imp And.left And.left);have U:=fM I;clear H I;go_wp2;go_end0;exact⟨rfl,R.out,U.out⟩
def agd (l r k:Nat) (c:jA) (name:fY) (gx:la) (n:List Tn) (w0:gm) (q:Yn w0 r c k) (h:jD w0 (.el name gx n) (.el k)) (J:List It->gm->Prop) (JE:gm->Prop) (D:Rnd l (jI (sA (λ_=>false) n)) w0 J JE) (N:∀pre W W',J pre W->Kept [] W W'->J pre W') (f:∀W W',JE W->Kept [] W W'->JE W') (W:gm) (m:∀V b,W.heap.size<=b->Wk V b l false->JE V->JE (V.setCell ⟨b,1,none⟩ (.bool true))) (d:Kept [] w0 W) (y:J [] W):
  Calls prog 30 #[gE r,.func (.yield l) #[] #[]] W λe W'=>e=pL/\(J (jI (sA (λ_=>false) n)) W'\/JE W')/\Kept [] w0 W':=by
 have R:=fM (Ho W r k c (q.kept d));have s:=fM (aeO l k name gx n w0 h J JE D N f W m d y);have c8:=(q.kept d).ye;have Y:=iQ (q.kept d).1;clear q h D N f m d y;generalize J (jI (sA (λ_=>false) n))=Z at s|-;go_enter func30,ntmps30;go_wp2_with fail;refine R.out.mono ?_;rintro e W2 ⟨rfl,rfl⟩;go_wp2_with fail;refine s.out.mono ?_;rintro e W3 ⟨rfl,H,I⟩;have U:=fM H;have X:=fM I;clear H I;go_wp2;go_end0;exact⟨rfl,U.out,X.out⟩
attribute [local go_sem] Oper.semAt_some
def KW.put (f:W.heap[l]?=some o) (h:o.isCells=false) (m:Obj):KW W (W.putObj l m):=by
 intro k c t d _;refine(sg ?_).trans d;rintro rfl;rw[f]at d;cases d;cases h
def KW.trans {C : gm} (h:KW A B) (k:KW B C):KW A C:=λi c t f d=>k i c t (h i c t f d) d
def KW.jL (h:Kept [] A B):KW A B:=λi c t d _=>h.at d (by simp)
def H6 (h:Kept S A B) (f:∀k∈S,∃c t m,A.heap[k]?=some (.cells c t m)):KeepsOthers A B:=by
 refine⟨h.size,λk o d q=>(h.block k (Array.getElem?_eq_some_iff.1 d).1 ?_).trans d⟩;intro n;have⟨c,t,m,hc⟩:=f k n;rw[d]at hc;cases hc;cases q
theorem aeP (h:Kept S A B) (f:∀k∈S,∃c t m,A.heap[k]?=some (.cells c t m)/\t∉[198,293]):KW A B:=by
 intro k c t d n;refine(h.block k (Array.getElem?_eq_some_iff.1 d).1 ?_).trans d;grind
theorem XA {n : Nat} {xs : List gG} (h:W.ownsRow base e sz v n xs) (q:W.heap[l]?=some o) (s:o.isCells=false) (y:Obj):(W.putObj l y).ownsRow base e sz v n xs:=by
 refine⟨h.1,?_⟩;rcases h.2 with e|⟨g,cap,d,e,m,f,r⟩
 .grind
 .refine .inr ⟨g,cap,d,e,m,(sg ?_).trans f,r⟩;rintro rfl;rw[q]at f;cases f;cases s
theorem NL (h:Kept S w W) (n:w.heap.size<=l) (f:Obj):Kept S w (W.putObj l f):=by
 have g:=BJ W l f;exact⟨g.os.trans h.os,g.tape.trans h.tape,g.output.trans h.output,jH h.size g.size,λk d m=>(g.block k (lU d h.size) (by grind)).trans (h.block k d m)⟩
def ab4 (h:Kept [] w W) (f:w.heap.size<=l) (d:Obj):Kept [] w (W.putObj l d):=NL h f d
theorem Wo {n : Nat} (h1:1<=n) (ro:iY) {g:Operand} {p:Tmp} {d q : Code} {Q:Exit->Act->gm->Prop} {a : Act} {gf : Nat} {recv : gG} (hg:a.eval g= .func (.func gf) #[recv] #[]) (eg:∀a7 w,(callFunc gf a7).run prog w= .ok (.enter gf a7) w)
  (tot:List It) (w0:gm)
  (ad:∀l J JE W,Rnd l tot w0 J JE->(∀pre W W',J pre W->Kept [] W W'->J pre W')->(∀W W',JE W->Kept [] W W'->JE W')->(∀V b,W.heap.size<=b->Wk V b l false->JE V->JE (V.setCell ⟨b,1,none⟩ (.bool true)))->J [] W->Kept [] w0 W->Calls prog gf #[recv,.func (.yield l) #[] #[]] W λe W'=>e=pL/\(J tot W'\/JE W')/\Kept [] w0 W')
  (id:Nat) (U:List Deferred) (X:gm->Prop) (l:Nat) (R:w.heap.size<=l)
  (al:∀fn,∃D W1,(Instr.enterLoop fn a.tmps #[p] d q ro).run prog w= .ok (l,U) W1/\Kept [] w W1/\X W1/\W1.heap[l]?=some (.loop {state:= .ready,pending:=none,fn:=fn,tmps:=a.tmps,params:=#[p],assign:=d,body:=q,defers:=D}))
  (Z:∀W W',X W->KeepsOthers W W'->X W') (ab:∀W o,X W->X (W.putObj l (.loop o)))
  (I:List It->gm->Prop) (E:gm->Prop) (aj:∀pre W,I pre W->Kept [] w0 W) (ar:∀W,E W->Kept [] w0 W) (a5:∀pre W W',I pre W->Kept [] W W'->I pre W') (au:∀W W',E W->Kept [] W W'->E W')
  (aa:∀pre W k r o',w.heap.size<=k->W.heap[k]?=some (.loop r)->I pre W->I pre (W.putObj k (.loop o'))) (ai:∀W k r o',w.heap.size<=k->W.heap[k]?=some (.loop r)->E W->E (W.putObj k (.loop o')))
  (aw:∀V b l,w.heap.size<=b->Wk V b l false->E V->E (V.setCell ⟨b,1,none⟩ (.bool true)))
  (h0:I [] w) (A:It->Act->gm->Prop) (aq:∀x a' W k r o',w.heap.size<=k->W.heap[k]?=some (.loop r)->A x a' W->A x a' (W.putObj k (.loop o')))
  (a0:∀(l:Nat) (pre:List It) (x:It) (W:gm) (K:Act->gm->Prop),I pre W->(∀a' W',Kept [] W W'->A x a' W'->K a' W')->
   d.wpIn (Fence.wide.inRound l) 3 prog (Exit.then K (λ_ _ _=>False)) {tmps:=a.tmps.setIfInBounds p x.val,defers:=[]} W)
  (ac:∀(l:Nat) (pre:List It) (x:It) (a':Act) (W:gm),w.heap.size<=l->(∃r,W.heap[l]?=some (.loop r))->I pre W->A x a' W->pre++[x] <+:tot->q.wpIn (Fence.wide.inRound l) 3 prog (λe _ W'=>((e= .normal/\I (pre++[x]) W')\/(e= .exit id/\E W'))/\KW W W'/\KeepsOthers W W') a' W)
  (ae:∀(W:gm),I tot W->X W->Q .normal {a with defers:=U++a.defers} W)
  (ah:∀(W:gm),E W->X W->Q (.exit id) {a with defers:=U++a.defers} W):
  (Code.rangeFunc g #[p] d q).wpIn {Fence.wide with round:=ro} n prog Q a w:=by
 refine Yf ?_;intro fn aA;have⟨D,W1,hrun,kw1,hX1,hL1⟩:=al fn;obtain⟨m,a4⟩:∃m:LoopState->Option Code->Loop,m=λst pe=>{state:=st,pending:=pe,fn:=fn,tmps:=a.tmps,params:=#[p],assign:=d,body:=q,defers:=D}:=⟨_,rfl⟩;have er:∀st pe,m st pe={state:=st,pending:=pe,fn:=fn,tmps:=a.tmps,params:=#[p],assign:=d,body:=q,defers:=D}:=λ_ _=>by rw[a4]
 rw[<-er]at hL1;have ko:∀{A B:gm},Kept [] A B->KeepsOthers A B:=λh=>H6 h (by simp);refine⟨l,U,W1,{target:= .fn (.func gf) #[],args:=#[recv,.func (.yield l) #[] #[]]},W1,gf,#[recv,.func (.yield l) #[] #[]],W1,hrun,?_,?_,?_,λ_=>h1,?_⟩
 .simp only[resolve,hg];simp[go_sem]
 .intro f' _;trivial
 .simp[invoke,go_sem,eg]
 .have hC:=ad l (λpre W=>I pre W/\W.heap[l]?=some (.loop (m .ready none))/\X W) (λW=>E W/\W.heap[l]?=some (.loop (m .done (some (.exit id))))/\X W) W1 ?_ ?_ ?_ ?_ ⟨a5 _ _ _ h0 kw1,hL1,hX1⟩ (aj _ _ (a5 _ _ _ h0 kw1))
  .refine CallsIn.mono (F:={Fence.wide with round:=ro}) (callsIn_wide.2 hC) ?_;rintro e W2 ⟨rfl,⟨hi,H,hx⟩|⟨hi,H,hx⟩,_⟩
   .have f:=LW (P:=prog) H (by rw[er];simp);rw[er]at f;exact⟨none,_,f,ae _ (aa _ _ _ _ _ R H hi) (ab _ _ hx)⟩
   .have f:=LW (P:=prog) H (by rw[er];simp);rw[er]at f;exact⟨some (.exit id),_,f,wpIn_exit (ah _ (ai _ _ _ _ R H hi) (ab _ _ hx))⟩
  .rintro pre x W hK ⟨hi,H,hd⟩ an;have aB:l < W.heap.size:=(Array.getElem?_eq_some_iff.1 H).1;have hy:(Instr.yield l #[x.val]).run prog W= .ok (.round l fn (a.tmps.setIfInBounds p x.val) d q) W:=by
    have:=run_yield (P:=prog) (args:=#[x.val]) H (by rw[er];rfl);rw[er]at this
    simpa using this
   refine⟨fn,_,d,q,hy,roundIn_of_wpIn trivial (a0 _ pre x W _ hi ?_)⟩;intro a' Wa a6 hA;have a2:Wa.heap[l]?=some (.loop (m .ready none)):=(a6.block _ (Array.getElem?_eq_some_iff.1 H).1 (by simp)).trans H;have ay:X Wa:=Z _ _ hd (ko a6);refine⟨_,run_beginRound a2 (by rw[er]),?_⟩;obtain⟨W2,Y⟩:∃W2,W2=Wa.putObj l (.loop {m .ready none with state:= .busy}):=⟨_,rfl⟩;rw[<-Y];have az:I pre W2:=by rw[Y];exact aa _ _ _ _ _ R a2 (a5 _ _ _ hi a6)
   have ap:A x a' W2:=by rw[Y];exact aq _ _ _ _ _ _ R a2 hA
   have ag:W2.heap[l]?=some (.loop {m .ready none with state:= .busy}):=by rw[Y];exact LX (Array.getElem?_eq_some_iff.1 a2).1
   have ak:X W2:=by rw[Y];exact ab _ _ ay
   have a8:KW W W2:=by rw[Y];exact(KW.jL a6).trans (KW.put a2 rfl _)
   refine Db (ac _ pre x a' W2 R ⟨_,ag⟩ az ap an) ?_;rintro e a3 W3 ⟨⟨rfl,af⟩|⟨rfl,af⟩,a9,N⟩
   .have y:=N.same _ _ ag rfl;have ax:=Z _ _ ak N;have f:=run_endRound (P:=prog) none y;have e1:({({m .ready none with state:= .busy}:Loop)with state:=if (none:Option Code).isNone then .ready else .done,pending:=none}:Loop)=m .ready none:=by subst a4;rfl
    rw[e1]at f;obtain⟨W4,s⟩:∃W4,W4=W3.putObj l (.loop (m .ready none)):=⟨_,rfl⟩;rw[<-s]at f;have a1:I (pre++[x]) W4:=by rw[s];exact aa _ _ _ _ _ R y af
    refine⟨_,_,f,.inl ⟨rfl,a1,?_,?_⟩,aj _ _ a1,?_⟩
    .rw[s];exact LX (Array.getElem?_eq_some_iff.1 y).1
    .grind
    .rw[s];exact(a8.trans a9).trans (KW.put y rfl _)
   .have y:=N.same _ _ ag rfl;have ax:=Z _ _ ak N;have f:=run_endRound (P:=prog) (some (.exit id)) y;have e1:({({m .ready none with state:= .busy}:Loop)with state:=if (some (Code.exit id):Option Code).isNone then .ready else .done,pending:=some (.exit id)}:Loop)=m .done (some (.exit id)):=by subst a4;rfl
    rw[e1]at f;obtain⟨W4,s⟩:∃W4,W4=W3.putObj l (.loop (m .done (some (.exit id)))):=⟨_,rfl⟩;rw[<-s]at f;have a1:E W4:=by rw[s];exact ai _ _ _ _ R y af
    refine⟨_,_,f,.inr ⟨rfl,a1,?_,?_⟩,ar _ a1,?_⟩
    .rw[s];exact LX (Array.getElem?_eq_some_iff.1 y).1
    .grind
    .rw[s];exact(a8.trans a9).trans (KW.put y rfl _)
  .rintro pre W W' ⟨hi,H,hd⟩ hk;exact⟨a5 _ _ _ hi hk,(hk.block _ (Array.getElem?_eq_some_iff.1 H).1 (by simp)).trans H,Z _ _ hd (ko hk)⟩
  .rintro W W' ⟨hi,H,hd⟩ hk;exact⟨au _ _ hi hk,(hk.block _ (Array.getElem?_eq_some_iff.1 H).1 (by simp)).trans H,Z _ _ hd (ko hk)⟩
  .rintro V b hb hw ⟨hi,H,hd⟩;have N:=Yg V ⟨b,1,none⟩ (.bool true);exact⟨aw _ _ _ (jH kw1.size hb) hw hi,N.same _ _ H rfl,Z _ _ hd N⟩
theorem Y4 {a : Act} {p:Tmp} {d f : Code}:∀m,∃D h,(Instr.enterLoop m a.tmps #[p] d f none).run prog w= .ok (w.heap.size+1,[{target:= .collected w.heap.size,args:=#[]}]) h/\Kept [] w h/\h.heap[w.heap.size]?=some (.deferred (some []))/\h.heap[w.heap.size+1]?=some (.loop {state:= .ready,pending:=none,fn:=m,tmps:=a.tmps,params:=#[p],assign:=d,body:=f,defers:=D}):=by
 intro m;refine⟨w.heap.size,_,Yh _ _ _ _ _,((Kept.refl _ _).alloc _).alloc _,(Below.heap_alloc _ _ _ (by simp)).trans (Iw w _),?_⟩;have:=Iw (w.alloc (.deferred (some []))) (.loop {state:= .ready,pending:=none,fn:=m,tmps:=a.tmps,params:=#[p],assign:=d,body:=f,defers:=w.heap.size});simp_all
attribute [local go_sem] Oper.semAt_some
def tj (L:List It):List gG:=L.flatMap λx=>[fV x.k,gu x.s,gu x.t]
def Mu (L M:List It):tj (L++M)=tj L++tj M:=On ..
def Zf:(prog.info? 34).map (λi=>(i.zero,i.size,i.bytes))=some (some (.agg #[fV 0,gu jB,gu jB]),3,40):=by kernel_rfl
theorem ad3 {f : gm} {d : Nat} {D y : TypeId} {n I : Nat} {xs r : List gG} (N:W.heap[d]?=some (gz #[v] D)) (X:W.ownsRow base y sz v n xs) (Y:d < base) (m:f.ownsRow base y sz v' I r) (s:(W.alloc o).grownBy f v.ownBlock):
  f.heap[d]?=some (gz #[v] D)/\(f.setCell ⟨d,0,none⟩ v').heap[d]?=some (gz #[v'] D)/\(f.setCell ⟨d,0,none⟩ v').ownsRow base y sz v' I r/\Kept (d::v.ownBlock.toList) W (f.setCell ⟨d,0,none⟩ v'):=by
 have H:Kept v.ownBlock.toList W f:=((Kept.refl _ _).alloc _).grown s (λk e=> .inl (by grind));have h:=H.at N (λU=>by
  have:=(X.lt d (by grind)).1;omega)
 refine⟨h,fR h 0 _,((Kept.refl [d] f).setCell (.inl (by simp)) _).ownsRow m (λq V U=>?_),(H.mono (λk R _=>nc _ R)).setCell (.inl (by simp)) _⟩;have:=(m.lt q V).1;grind
theorem afg {f : TypeId} {n : Nat} {xs : List gG} (m:W.ownsRow base f sz v n xs):∀k∈v.ownBlock.toList,∃c,W.heap[k]?=some (gz c f):=by
 intro k d;rcases m.2 with⟨rfl,_⟩|⟨g,cap,h,rfl,_,q,_⟩
 .simp[Value.ownBlock]at d
 .simp[Value.ownBlock]at d;grind
attribute [local go_sem] Oper.semAt_some
theorem ach (w:gm) (I k:Nat) (c:jA) (name:fY) (gx:la) (ts:List Tn) (hp:Yn w I c k) (h:jD w (.el name gx ts) (.el k)) (tot:List It) (ht:jI (sA (λ_=>false) ts)=tot) (hn:tot.length<=1000000000):
  Calls prog 13 #[gE I] w λe w'=>∃v,e=ig v/\w'.ownsRow w.heap.size 34 3 v tot.length (tj tot)/\Kept [] w w':=by
 refine(BI (n:=5)).1 ?_;refine BK func13 rfl trivial ?_ rfl;simp only[ntmps13,xQ,rn,uI,Nat.reduceAdd,Nat.reduceSub,xR,xS,xU,xV,rp,tU];have HP:=fM hp;have HT:=fM h;have a4:=fM ht;clear hp h ht
 gi_wp2_with (refine⟨trivial,?_⟩;gi_at_call 21;refine(callsIn_wide.2 (NJ _ I)).mono ?_;rintro e w' ⟨rfl,rfl⟩)
 obtain⟨w1,D⟩:∃w1,w1=w.alloc (gz #[ji] 23):=⟨_,rfl⟩;have z1:w1.heap.size=w.heap.size+1:=by rw[D];simp
 have k1:Kept [] w w1:=by rw[D];exact(Kept.refl _ _).alloc _
 have g1:w1.heap[w.heap.size]?=some (gz #[ji] 23):=by rw[D];exact fP w _
 rw[<-D];clear D;have⟨i0,hi,hz0,hz1,hz2⟩:=uH Zf;have HE:=fM (enters_of func30 (by rfl) rfl);have a3:=a4.out;have HC:=fM (λl J JE W hY hm a7 a8 h0 hK=>agd l I k c name gx ts w HP.out HT.out J JE (by omega) hm a7 W a8 hK h0);rw[a3]at HC;clear a3;have a9:∀{W:gm},Kept [w.heap.size] w1 W->Kept [] w W:=λh=>k1.next h (by simp);refine Wo (by omega) none (gf:=30) (recv:=gE I) rfl HE.out tot w HC.out 0 _ (λW=>W.heap[w1.heap.size]?=some (.deferred (some []))) (w1.heap.size+1) (by omega) Y4 (λW W' h Y=>Y.same _ _ h rfl) (λW o h=>(sg (by omega)).trans h)
  (λpre W=>∃v,W.heap[w.heap.size]?=some (gz #[v] 23)/\W.ownsRow w1.heap.size 34 3 v pre.length (tj pre)/\Kept [w.heap.size] w1 W) (λ_=>False)
  (λ_ _ h=>by grind) (λ_ h=>h.elim) ?_ (λ_ _ h _=>h) ?_ (λ_ _ _ _ _ _ h=>h) (λ_ _ _ _ _ h=>h) ⟨_,g1,pk _ _ _ _,Kept.refl _ _⟩
  (λx a' W=>∃X,w1.heap.size<=X/\W.heap[X]?=some (gz #[fV x.k,gu x.s,gu x.t] 34)/\a'={tmps:=#[gE I,undef,ji,gE w.heap.size,gE X,gE I,.func (.func 30) #[gE I] #[],x.val,undef,undef,undef,undef,undef],defers:=[]}) ?_ ?assign ?body ?done ?halt
 .rintro pre W W' ⟨v,d,f,s⟩ Y;exact⟨v,Y.at d (by simp),Y.ownsRow f (λ_ _=>by simp),s.trans (Y.mono (by simp))⟩
 .rintro pre W k r o' Y hl ⟨v,d,f,s⟩;exact⟨v,(sg (by omega)).trans d,XA f hl rfl _,NL s (by omega) _⟩
 .rintro x a' W k r o' Y hl ⟨X,d,f,s⟩;refine⟨X,d,(sg ?_).trans f,s⟩;grind
 case assign=>
  rintro l pre x W K ⟨v,d,f,s⟩ hK;have hz:=s.size;gi_wp2;exact hK _ _ ((Kept.refl [] W).alloc _) ⟨W.heap.size,by omega,fP W _,rfl⟩
 case body=>
  rintro l pre x a' W _ _ ⟨v,d,f,s⟩ ⟨X,hX,h4,rfl⟩ R;have N:pre.length+1<=tot.length:=by have:=R.length_le;simpa using this
  have hz:=s.size;have c1:=fN d 0;have f1:=gh d 0;have x0:=fN h4 0;have x1:=fN h4 1;have x2:=fN h4 2;dsimp at c1 x0 x1 x2;have⟨ao,cp,hv⟩:=gw f;subst hv;have a0:=fM d;have y:=fM f;have V:=fM s;have a6:=iQ d;have HB:=fM a6;have HZ:=fM hz;have H:=fM N;have a1:=fM hn;have a5:=fM z1;clear d f s h4 R hz N hn z1
  gi_wp2_with (gi_at_builtin;refine wpListIn_append_own _ rfl _ _ 23 rfl w1.heap.size 34 i0 (.agg #[fV 0,gu jB,gu jB]) 3 40 underlying23 hi hz0 hz1 hz2 rfl (by decide) _ _ _ rfl (y.out.alloc _) ⟨W.heap.size,0,none⟩ 1 1 [fV x.k,gu x.s,gu x.t] rfl rfl ?c1 ?c2 ?c3 ?c4 ?c5 ?_)
  case c1=>
   intro j u hj;have hg:=fP W (gz #[fV x.k,gu x.s,gu x.t] 34);rw[jj,fN hg];grind
  case c2=>
   intro u hu;simp at hu;rcases hu with rfl|rfl|rfl<;>rfl
  case c3=>have:=H.out;have:=a1.out;unfold maxLen;omega
  case c4=>have:=H.out;have:=a1.out;omega
  case c5=>have:=HB.out;have:=HZ.out;have:=a5.out;simp;omega
  intro v' w3 Z a2 _;have⟨ao',cp',hv'⟩:=gw Z;subst hv';have⟨hB3,hB4,ho4,hk4⟩:=ad3 a0.out y.out (by grind) Z a2;have c3:=fN hB3 0;have f3:=gh hB3 0;dsimp at c3;have kk:Kept [w.heap.size] w1 (w3.setCell ⟨w.heap.size,0,none⟩ (.slice ao' (pre.length+1) cp')):=V.out.next hk4 (λq U=>by
   rcases List.mem_cons.1 U with rfl|U
   .simp
   .exact .inr (y.out.lt q (by simpa using U)).1)
  have ow:(w3.setCell ⟨w.heap.size,0,none⟩ (.slice ao' (pre.length+1) cp')).ownsRow w1.heap.size 34 3 (.slice ao' (pre.length+1) cp') (pre++[x]).length (tj (pre++[x])):=by
   have e2:tj (pre++[x])=tj pre++[fV x.k,gu x.s,gu x.t]:=by rw[Mu];rfl
   rw[e2,oj];exact ho4
  have hS:∀k∈w.heap.size::(Value.slice ao pre.length cp).ownBlock.toList,∃c t m,W.heap[k]?=some (.cells c t m)/\t∉[198,293]:=λq U=>by
   rcases List.mem_cons.1 U with rfl|U
   .exact⟨_,_,_,a0.out,by decide⟩
   .have⟨cc,hc⟩:=afg y.out q U;grind
  have HF:=fM (show(∃v,(w3.setCell ⟨w.heap.size,0,none⟩ (.slice ao' (pre.length+1) cp')).heap[w.heap.size]?=some (gz #[v] 23)/\(w3.setCell ⟨w.heap.size,0,none⟩ (.slice ao' (pre.length+1) cp')).ownsRow w1.heap.size 34 3 v (pre++[x]).length (tj (pre++[x]))/\Kept [w.heap.size] w1 (w3.setCell ⟨w.heap.size,0,none⟩ (.slice ao' (pre.length+1) cp')))/\KW W (w3.setCell ⟨w.heap.size,0,none⟩ (.slice ao' (pre.length+1) cp'))/\KeepsOthers W (w3.setCell ⟨w.heap.size,0,none⟩ (.slice ao' (pre.length+1) cp'))from⟨⟨_,hB4,ow,kk⟩,aeP hk4 hS,H6 hk4 (λq U=>by grind)⟩);clear Z a2 hB3 hB4 ho4 hk4 kk ow hS;gi_wp2;exact⟨by simpa using HF.out.1,HF.out.2⟩
 case done=>
  rintro W ⟨v,d,f,s⟩ hd;have⟨ao,cp,hv⟩:=gw f;subst hv;have c1:=fN d 0;dsimp at c1;have y:=fM f;have V:=fM (a9 s);have HD:=fM hd;have aa:=fM z1;clear d f s hd;gi_wp2;refine⟨by simp,.inl ⟨_,_,rfl,sL HD.out,?_⟩⟩;refine⟨_,results_tmp rfl _ _ _,_,rfl,?_,ab4 V.out (by omega) _⟩;exact jM (XA y.out HD.out rfl (.deferred none)) (by omega)
 simp
structure D8 (w:gm) (g off n:Nat) (A:Nat->It):Prop where
 c0:∀i,i < n->w.cell? ⟨g,off+i*3,none⟩=some (fV (A i).k)
 c1:∀i,i < n->w.cell? ⟨g,off+i*3+1,none⟩=some (gu (A i).s)
 c2:∀i,i < n->w.cell? ⟨g,off+i*3+2,none⟩=some (gu (A i).t)
def uR (L:List It) (i:Nat):It:=L.getD i ⟨0,⟨#[]⟩,⟨#[]⟩⟩
theorem ab1 {L : List It} (m:w.ownsRow base 34 3 (oo g L.length cap) L.length (tj L)):D8 w g 0 L.length (uR L):=by
 have h:∀(L:List It) (i k:Nat),i < L.length->k < 3->(tj L)[i*3+k]?=[Value.int .i64 (uR L i).k,gu (uR L i).s,gu (uR L i).t][k]?:=by
  intro L
  induction L with
  |nil=>simp
  |cons p L ih=>
   intro i k d f;show(Value.int .i64 p.k:: .string p.s:: .string p.t::tj L)[i*3+k]?=_;cases i with
   |zero=>
    have e:uR (p::L) 0=p:=rfl;grind
   |succ i=>
    have e:uR (p::L) (i+1)=uR L i:=by unfold uR;simp
    grind
 have c:∀i k,i < L.length->k < 3->w.cell? ⟨g,i*3+k,none⟩=[Value.int .i64 (uR L i).k,gu (uR L i).s,gu (uR L i).t][k]?:=by
  intro i k d f
  match k,f with
  |0,f=>have:=m.cells (g:=g) rfl (i*3+0) _ (h L i 0 d f);rw[jj]at this;grind
  |1,f=>have:=m.cells (g:=g) rfl (i*3+1) _ (h L i 1 d f);rw[jj]at this;grind
  |2,f=>have:=m.cells (g:=g) rfl (i*3+2) _ (h L i 2 d f);rw[jj]at this;grind
 refine⟨λi d=>?_,λi d=>?_,λi d=>?_⟩
 .rw[Iy];exact c i 0 d (by omega)
 all_goals grind
def abV:(prog.info? 5).map (λi=>(i.zero,i.size,i.bytes))=some (some (.int .u8 0),1,1):=by kernel_rfl
theorem OP:(∃j,prog.info? 93=some j/\j.size≠0):=by
 have h:((prog.info? 93).map λi=>i.size)=some 2:=by kernel_rfl
 have⟨j,hj,h2⟩:=Option.map_eq_some_iff.1 h;grind
def T4:liesAt prog prog.depth 95 (4 / prog.cellsOf 95) 0 93 1=true:=by kernel_rfl
def KB (W W':gm):Prop:=∀(k:Nat) (c:jA) (t:TypeId),W.heap[k]?=some (gz c t)->t∉[95,5]->W'.heap[k]?=some (gz c t)
def KB.trans {C : gm} (h:KB A B) (k:KB B C):KB A C:=λi c t f d=>k i c t (h i c t f d) d
def KB.jL (h:Kept [] A B):KB A B:=λi c t d _=>h.at d (by simp)
theorem KB.Vw {d : jA} (h:Kept [b] A B) (m:A.heap[b]?=some (gz d 95)):KB A B:=λi c t f n=>h.at f (by
 grind)
theorem KB.acz {n : Nat} {xs : List gG} (m:A.grownBy B v.ownBlock) (q:A.ownsRow base 5 1 v n xs):KB A B:=λi c t f y=>(m.block i (iQ f) (by
 intro e;rcases q.2 with⟨e2,_⟩|⟨g,d,h,e2,_,s,_⟩
 .rw[e2]at e;cases e
 .rw[e2]at e;have r:=jv e;grind)).trans f
def Md (l:List UInt8) (s:fY):Lib.byteCells (l++s.data.toList)=Lib.byteCells l++Lib.strCells s:=by
 unfold Lib.byteCells Lib.strCells;simp
def jw (xs:List fY):List UInt8:=xs.flatMap λs=>s.data.toList
def EQ (xs ys:List fY):jw (xs++ys)=jw xs++jw ys:=On ..
def IP (s f d:fY):fY:=⟨(Lib.replaceAll s.data.toList f.data.toList d.data.toList).toArray⟩
def LY (w:gm):Prop:=(∃m,w.cell? ⟨3,0,none⟩=some (fV m))/\3 < w.heap.size
def LY.kept (h:LY w) (d:Kept [] w w'):LY w':=by
 have⟨⟨m,hm⟩,hl⟩:=h;exact⟨⟨m,(d.cell (p:=⟨3,0,none⟩) hl (by simp)).trans hm⟩,lU hl d.size⟩
def KE (h:Below w.heap.size w w'):Kept [] w w':=⟨h.os,h.tape,h.output,h.size,λk d _=>h.block k d⟩
def yT (s:fY):fY:=IP (IP s uK ke) tG np
def A0 (s:fY):fY:=IP (IP (yT s) qJ lA) iO rW
def agV (w0:gm) (vv:gG) (q:fY->Bool):Prop:=∃k f,vv= .func (.func k) #[] f/\(∀d w,(callFunc k d).run prog w= .ok (.enter k d) w)/\∀W,Kept [] w0 W->∀s,Calls prog k (#[gu s]++f) W λe W'=>e=ig (.bool (q s))/\W'=W
theorem KB.row (h:KB w w') {d : Nat} {n : Nat} {xs : List gG} (r:w.ownsRow base e d v n xs) (D:e∉[95,5]):w'.ownsRow base e d v n xs:=by
 refine⟨r.1,?_⟩;rcases r.2 with e2|⟨q,f,m,e2,s,y,H⟩
 .grind
 .exact .inr ⟨q,f,m,e2,s,h _ _ _ y D,H⟩
theorem U1 (L:la) (i:Nat) (h:i < L.length):(Ey L)[i*2]?=some (gu (L[i]).1)/\(Ey L)[i*2+1]?=some (gu (L[i]).2):=by
 induction L generalizing i with
 |nil=>simp at h
 |cons a L ih=>
  cases i with
  |zero=>simp
  |succ i=>
   grind
def zD (s:fY):fY:=IP (yT s) nZ pd
def QY (s u:fY):Nat->Nat->Nat->Bool
 |0,_,_=>false
 |n+1,f,i=>if i=u.size\/bt u i=32 then (if s.toList≠[]/\(u.extract f i).toList=s.toList then true else QY s u n (i+1) (i+1))else QY s u n f (i+1)
def aaN (s u:fY) (w:gm) (hu:u.size<=1000):
  Calls prog 7 #[gu s,gu u] w λe w'=>e=ig (.bool (QY s u (u.size+1) 0 0))/\w'=w:=by
 have a0:=get_bt u;obtain⟨r,V⟩:∃r,r=QY s u (u.size+1) 0 0:=⟨_,rfl⟩;rw[<-V];have Y:=fM V;clear V;go_enter func7,ntmps7;go_wp2
 go_loopw [5,6] (λf i wr=>∃a k:Nat,f=fV a/\i=fV k/\a<=k/\k<=u.size+1/\Hid (r=QY s u (u.size+1 - k) a k)/\wr=w) (λ_ i _=>u.size+1 - (intOf i).toNat)
 case atStart=>exact⟨0,0,rfl,rfl,gL _,iM _,Y,rfl⟩
 case round=>
  obtain⟨a,k,rfl,rfl,ha,hk,d,X⟩:=hrel;replace X:=X.symm;subst X;clear Y;by_cases h1:k<=u.size
  .have m:Hid (∀(b:Nat) (x y:Int),x=b->y=k+1->b<=k+1->r=QY s u (u.size - k) b (k+1)->(∃a n:Nat,Value.int .i64 x=fV a/\Value.int .i64 y=fV n/\a<=n/\n<=u.size+1/\Hid (r=QY s u (u.size+1 - n) a n)/\True)/\u.size+1 - (intOf (fV y)).toNat < u.size+1 - (intOf (fV k)).toNat):=fM (by
    rintro b _ _ rfl rfl H q;exact⟨⟨b,k+1,rfl,rfl,H,by omega,by rw[show u.size+1 - (k+1)=u.size - k by omega];exact fM q,trivial⟩,by simp[intOf];omega⟩)
   rw[show u.size+1 - k=(u.size - k)+1 by omega,QY]at d;have D:k=u.size\/k < u.size/\((k:Int)==(u.size:Int))=false:=by
    rcases pJ k u.size with h|h
    .exact .inr ⟨h,beq_eq_false_iff_ne.2 (by omega)⟩
    .exact .inl (by omega)
   by_cases H:k=u.size\/bt u k=32
   .rw[gv H]at d;by_cases q:s.toList≠[]/\(u.extract a k).toList=s.toList
    .rw[gv q]at d;have N:s.toList.isEmpty=false:=by simpa using q.1
     have Z:((u.extract a k).toList==s.toList)=true:=beq_iff_eq.2 q.2;obtain rfl:=d.out;clear q m d;rcases D with rfl|⟨D,R⟩
     all_goals (try have U:bt u k=32:=by omega)
     all_goals
      go_wp2;go_ret;exact⟨rfl,rfl⟩
    .rw[gH q]at d;have I:=fM (m.out (k+1) ((k:Int)+1) _ (by omega) rfl (by omega) d.out);clear m d;by_cases N:s.toList=[]
     .clear q;rcases D with rfl|⟨D,R⟩
      all_goals (try have U:bt u k=32:=by omega)
      all_goals (go_wp2_with fail;exact I.out)
     .have Z:((u.extract a k).toList==s.toList)=false:=beq_eq_false_iff_ne.2 λh=>q ⟨N,h⟩;replace N:s.toList.isEmpty=false:=by simpa using N
      clear q;rcases D with rfl|⟨D,R⟩
      all_goals (try have U:bt u k=32:=by omega)
      all_goals (go_wp2_with fail;exact I.out)
   .rw[gH H]at d;have I:=fM (m.out a (a:Int) _ rfl rfl (by omega) d.out);have R:(bt u k==32)=false:=beq_eq_false_iff_ne.2 λh=>H (.inr h);have U:((k:Int)==(u.size:Int))=false:=beq_eq_false_iff_ne.2 (by omega);have h8:k < u.size:=by omega
    clear H m d D;go_wp2_with fail;exact I.out
  .have h4:r=false:=by rw[d.out,show u.size+1 - k=0 by omega];rfl
   subst h4;go_wp2;go_ret;exact⟨rfl,rfl⟩
def nS (v:Bool):List UInt8->List UInt8
 |[]=>[]
 |c::t=>
  if c=38 then [38,97,109,112,59]++nS v t
  else if c=34/\v=true then [38,113,117,111,116,59]++nS v t
  else if c=60/\v=false then [38,108,116,59]++nS v t
  else if c=62/\v=false then [38,103,116,59]++nS v t
  else match c,t with
   |194,160::t'=>[38,110,98,115,112,59]++nS v t'
   |c,t=>c::nS v t
def Dy {v : Bool} {c:UInt8} {t:List UInt8} (h:c≠38) (m:¬(c=34/\v=true)) (n:¬(c=60/\v=false)) (q:¬(c=62/\v=false)) (d:c≠194\/∀f,t≠160::f):nS v (c::t)=c::nS v t:=by
 rw[nS.eq_def];dsimp only;rw[gH h,gH m,gH n,gH q];split
 .rename_i f;rcases d with d|d
  .exact(d rfl).elim
  .exact(d f rfl).elim
 .rfl
def Dv (s:fY) (k:Nat):List UInt8:=s.data.toList.drop k
def ai1 (s:fY) (k:Nat) (h:k < s.size):Dv s k=s[k]::Dv s (k+1):=by
 unfold Dv;rw[Dc (by simpa using h)];rfl
def ai0 (s:fY) (k:Nat) (h:k < s.size):(s.extract k (k+1)).data.toList=[s[k]]:=by
 have e:(s.extract k (k+1)).data=s.data.extract k (k+1):=ByteArray.data_extract;rw[e,Array.toList_extract,List.extract_eq_take_drop,Dc (by simpa using h),show k+1 - k=1 by omega];rfl
theorem Jd (s:fY) (v:Bool) (w:gm) (hs:s.size<=140737488355328):
  Calls prog 8 #[gu s,.bool v] w λe w'=>e=ig (gu ⟨(nS v s.data.toList).toArray⟩)/\w'=w:=by
 have N:=get_bt s;obtain⟨r,V⟩:∃r,r=nS v s.data.toList:=⟨_,rfl⟩;rw[<-V];have HR:=fM V;clear V;go_enter func8,ntmps8;go_wp2
 go_loopw [5,6] (λo i wr=>∃(x:fY) (k:Nat),o=gu x/\i=fV k/\k<=s.size/\x.size<=6*k/\Hid (r=x.data.toList++nS v (Dv s k))/\wr=w) (λ_ i _=>s.size - (intOf i).toNat)
 case atStart=>exact⟨⟨#[]⟩,0,rfl,rfl,iM _,by decide,HR,rfl⟩
 case round=>
  obtain⟨x,k,rfl,rfl,hk,hx,U,X⟩:=hrel;replace X:=X.symm;subst X;clear HR;by_cases h1:k < s.size
  .obtain⟨c,R,hf⟩:∃c,(s.extract k (k+1)).data.toList=[c]/\Dv s k=c::Dv s (k+1):=⟨_,ai0 s k h1,ai1 s k h1⟩;have hy:(s.extract k (k+1)).size=1:=by simp;omega
   have D:∀(y:fY) (j:Nat) (z:Int),z=j->k < j->j<=s.size->y.size<=6->nS v (c::Dv s (k+1))=y.data.toList++nS v (Dv s j)->(∃(q:fY) (m:Nat),gu (x++y)=gu q/\Value.int .i64 z=fV m/\m<=s.size/\q.size<=6*m/\Hid (r=q.data.toList++nS v (Dv s m))/\True)/\s.size - (intOf (fV z)).toNat < s.size - (intOf (fV k)).toNat:=by
    rintro y j _ rfl h2 f H I;refine⟨⟨x++y,j,rfl,rfl,f,by simp;omega,?_,trivial⟩,by simp[intOf];omega⟩;rw[U.out,hf,I];exact fM (by simp)
   have d:=fM D;have one:c≠38->¬(c=34/\v=true)->¬(c=60/\v=false)->¬(c=62/\v=false)->(c≠194\/∀Z,Dv s (k+1)≠160::Z)->nS v (c::Dv s (k+1))=(s.extract k (k+1)).data.toList++nS v (Dv s (k+1)):=λa1 a2 a3 a4 a5=>by rw[Dy a1 a2 a3 a4 a5,R];rfl
   have n:=fM one;have e2:(s.extract k (k+1)).toList=[c]:=by rw[sK,R]
   have F2:=fM (ai1 s (k+1));clear D one hf U R;by_cases h0:c=194
   .subst h0;go_wp2_with fail
    .rename_i q6 Y;have f:k+1 < s.size:=by omega
     have H:=N (k+1) f;rw[beq_iff_eq.1 Y]at H;have I:s[k+1]=160:=UInt8.toNat_inj.1 (by have:(160:UInt8).toNat=160:=rfl;omega);exact d.out _ (k+1+1) _ (by omega) (by omega) (by omega) (by decide) (by rw[F2.out f,I,nS.eq_def];rfl)
    .rename_i q6 Y;have f:k+1 < s.size:=by omega
     have H:=N (k+1) f;have I:s[k+1]≠160:=λh=>by rw[h]at H;exact beq_eq_false_iff_ne.1 Y H.symm
     exact d.out _ (k+1) _ (by omega) (by omega) (by omega) (by omega) (n.out (by decide) (λh=>absurd h.1 (by decide)) (λh=>absurd h.1 (by decide)) (λh=>absurd h.1 (by decide)) (.inr λZ e=>by rw[F2.out f]at e;exact I (List.cons.inj e).1))
    .rename_i q6;exact d.out _ (k+1) _ (by omega) (by omega) (by omega) (by omega) (n.out (by decide) (λh=>absurd h.1 (by decide)) (λh=>absurd h.1 (by decide)) (λh=>absurd h.1 (by decide)) (.inr λZ e=>by have:Dv s (k+1)=[]:=List.drop_eq_nil_of_le (by simp;omega);rw[this]at e;cases e))
   .go_wp2_with fail
    all_goals first
     |exact d.out _ (k+1) _ (by omega) (by omega) (by omega) (by decide) (by simp_all[nS])
     |exact d.out _ (k+1) _ (by omega) (by omega) (by omega) (by omega) (n.out (by simp_all) (by simp_all) (by simp_all) (by simp_all) (.inl h0))
  .have h2:Dv s k=[]:=by unfold Dv;exact List.drop_eq_nil_of_le (by simp;omega)
   have f:r=x.data.toList:=by rw[U.out,h2];simp[nS]
   subst f;go_wp2;go_ret;exact⟨rfl,rfl⟩
theorem index_one (c:UInt8):∀s:List UInt8,(Lib.index s [c]= -1/\c∉s)\/∃a t,s=a++c::t/\c∉a/\Lib.index s [c]=a.length
 |[]=> .inl ⟨rfl,by simp⟩
 |b::l=>by
  by_cases h:c=b
  .subst h;refine .inr ⟨[],l,rfl,by simp,?_⟩;simp[Lib.index]
  .have d:([c]:List UInt8).isPrefixOf (b::l)=false:=by simp[List.isPrefixOf,h]
   rcases index_one c l with⟨f,m⟩|⟨a,t,rfl,m,n⟩
   .refine .inl ⟨?_,by grind⟩;simp[Lib.index,d,f]
   .refine .inr ⟨b::a,t,rfl,by grind,?_⟩;have:¬((a.length:Int)= -1):=by omega
    simp[Lib.index,d,n,this]
def one (c:UInt8) (d:List UInt8) (s:List UInt8):List UInt8:=s.flatMap λb=>if b=c then d else [b]
theorem SG {c:UInt8} {d s:List UInt8} (h:c∉s):one c d s=s:=by
 induction s with
 |nil=>rfl
 |cons b l ih=>
  grind[one]
def yl (c:UInt8) (d a b:List UInt8):one c d (a++b)=one c d a++one c d b:=On ..
theorem Th (c:UInt8) (d:List UInt8):∀(f:Nat) (s:List UInt8),s.length < f->Lib.replaceK [c] d (Lib.countFrom [c] f s) s=one c d s
 |0,_,h=>by omega
 |f+1,s,h=>by
  rcases index_one c s with⟨r,m⟩|⟨a,t,rfl,m,n⟩
  .have e:Lib.countFrom [c] (f+1) s=0:=by simp[Lib.countFrom,r]
   rw[e,SG m];rfl
  .have q:(a++c::t).drop (a.length+[c].length)=t:=by simp
   have e:Lib.countFrom [c] (f+1) (a++c::t)=Lib.countFrom [c] f t+1:=by
    simp only[Lib.countFrom,n];rw[gH (by simp),Int.toNat_natCast,q];omega
   rw[e,Lib.replaceK_hit _ _ _ _ a.length n,q,Th c d f t (by grind),yl,SG m];simp[one]
def Ji (s:fY) (c:UInt8) (d:fY) (f:([c]==d.data.toList)=false):(IP s ⟨#[c]⟩ d).data.toList=one c d.data.toList s.data.toList:=by
 have e:(IP s ⟨#[c]⟩ d).data.toList=Lib.replaceAll s.data.toList [c] d.data.toList:=by simp[IP]
 rw[e];unfold Lib.replaceAll Lib.replace;rw[f];simp only[ru,rj];have e2:Lib.replaceNum s.data.toList [c] (-1)=Lib.countFrom [c] (s.data.toList.length+1) s.data.toList:=by
  unfold Lib.replaceNum;rw[gv (.inl (by decide))];rfl
 rw[e2];exact Th c _ _ _ (by omega)
def two (a b:UInt8) (d:List UInt8):List UInt8->List UInt8
 |x::y::t=>if x=a/\y=b then d++two a b d t else x::two a b d (y::t)
 |l=>l
theorem ND (a b:UInt8) (d:List UInt8):∀s:List UInt8,(Lib.index s [a,b]= -1/\two a b d s=s)\/∃u t,s=u++a::b::t/\Lib.index s [a,b]=u.length/\two a b d s=u++d++two a b d t
 |[]=> .inl ⟨rfl,rfl⟩
 |[x]=> .inl ⟨by simp[Lib.index,List.isPrefixOf],rfl⟩
 |x::y::t=>by
  by_cases h:x=a/\y=b
  .obtain⟨rfl,rfl⟩:=h;refine .inr ⟨[],t,rfl,by simp[Lib.index,List.isPrefixOf],?_⟩;simp[two]
  .have n:([a,b]:List UInt8).isPrefixOf (x::y::t)=false:=by
    simp only[List.isPrefixOf,Bool.and_true,Bool.and_eq_false_iff,vk,ne_eq];by_cases D:a=x
    .grind
    .grind
   have e2:two a b d (x::y::t)=x::two a b d (y::t):=by rw[two,gH h]
   have q:Lib.index (x::y::t) [a,b]=if Lib.index (y::t) [a,b]== -1 then -1 else Lib.index (y::t) [a,b]+1:=by
    rw[Lib.index,n];rfl
   rcases ND a b d (y::t)with⟨f,m⟩|⟨u,H,f,m,r⟩
   all_goals grind
theorem Ti (a b:UInt8) (d:List UInt8):∀(f:Nat) (s:List UInt8),s.length < f->Lib.replaceK [a,b] d (Lib.countFrom [a,b] f s) s=two a b d s
 |0,_,h=>by omega
 |f+1,s,h=>by
  rcases ND a b d s with⟨q,m⟩|⟨u,t,rfl,m,r⟩
  .have e:Lib.countFrom [a,b] (f+1) s=0:=by simp[Lib.countFrom,q]
   rw[e,m];rfl
  .have n:(u++a::b::t).drop (u.length+[a,b].length)=t:=by simp
   have e:Lib.countFrom [a,b] (f+1) (u++a::b::t)=Lib.countFrom [a,b] f t+1:=by
    simp only[Lib.countFrom,m];rw[gH (by simp),Int.toNat_natCast,n];omega
   rw[e,Lib.replaceK_hit _ _ _ _ u.length m,n,Ti a b d f t (by grind),r];simp
def afw (s:fY) (a b:UInt8) (d:fY) (f:([a,b]==d.data.toList)=false):(IP s ⟨#[a,b]⟩ d).data.toList=two a b d.data.toList s.data.toList:=by
 have e:(IP s ⟨#[a,b]⟩ d).data.toList=Lib.replaceAll s.data.toList [a,b] d.data.toList:=by simp[IP]
 rw[e];unfold Lib.replaceAll Lib.replace;rw[f];simp only[ru,rj];have e2:Lib.replaceNum s.data.toList [a,b] (-1)=Lib.countFrom [a,b] (s.data.toList.length+1) s.data.toList:=by
  unfold Lib.replaceNum;rw[gv (.inl (by decide))];rfl
 rw[e2];exact Ti a b _ _ _ (by omega)
theorem zk {a b:UInt8} {d:List UInt8} {x:UInt8} (h:x≠a):∀l:List UInt8,two a b d (x::l)=x::two a b d l
 |[]=>rfl
 |y::t=>by grind[two]
def am:List UInt8:=[38,97,109,112,59]
def nbs:List UInt8:=[38,110,98,115,112,59]
def Fm (s:List UInt8):List UInt8:=two 194 160 nbs (one 38 am s)
def agZ (t:List UInt8):Fm (38::t)=am++Fm t:=by
 show two 194 160 nbs ([38,97,109,112,59]++one 38 am t)=_;simp only[tU,rp];rw[zk (by decide),zk (by decide),zk (by decide),zk (by decide),zk (by decide)];rfl
theorem xD {c x:UInt8} {d:List UInt8} (h:x≠c) (l:List UInt8):one c d (x::l)=x::one c d l:=by
 grind[one]
def aiK (t:List UInt8):Fm (194::160::t)=nbs++Fm t:=by
 rfl
def adL {c:UInt8} (h:c≠38) {t:List UInt8} (m:c≠194\/∀r,t≠160::r):Fm (c::t)=c::Fm t:=by
 unfold Fm;rw[xD h];by_cases f:c=194
 .have n:=m.resolve_left (λe=>e f);cases t with
  |nil=>rfl
  |cons y t=>
   have q:y≠160:=λe=>n t (by rw[e]);by_cases d:y=38
   .subst d;show two 194 160 nbs (c::38::_)=_;rw[two,gH (by simp)];rfl
   .rw[xD d,two,gH (λe=>q e.2)]
 .exact zk f _
def So {v : Bool} {t:List UInt8}:nS v (194::160::t)=nbs++nS v t:=by
 rfl
theorem FD:∀(n:Nat) (s:List UInt8),s.length<=n->one 62 [38,103,116,59] (one 60 [38,108,116,59] (Fm s))=nS false s/\one 34 [38,113,117,111,116,59] (Fm s)=nS true s
 |0,s,h=>by
  have:s=[]:=QB (by omega);subst this;exact⟨rfl,rfl⟩
 |n+1,[],_=>⟨rfl,rfl⟩
 |n+1,c::t,h=>by
  have r:=FD n t (by grind);by_cases q:c=38
  .subst q;rw[agZ];constructor
   .rw[yl,yl,r.1];rfl
   .rw[yl,r.2];rfl
  by_cases I:c=194/\∃m,t=160::m
  .obtain⟨rfl,m,rfl⟩:=I;have f:=FD n m (by grind);rw[aiK,So,So];constructor
   .rw[yl,yl,f.1];rfl
   .rw[yl,f.2];rfl
  have d:c≠194\/∀m,t≠160::m:=by
   by_cases N:c=194
   .grind
   .grind
  rw[adL q d];constructor
  .by_cases D:c=60
   .grind[one,Fm,nS]
   .rw[xD D];by_cases H:c=62
    .grind[one,Fm,nS]
    .rw[xD H,r.1,Dy q (by simp) (λe=>D e.1) (λe=>H e.1) d]
  .by_cases y:c=34
   .grind[one,Fm,nS]
   .rw[xD y,r.2,Dy q (λe=>y e.1) (by simp) (by simp) d]
def Nu (s:fY):(yT s).data.toList=Fm s.data.toList:=by
 unfold yT;rw[afw _ _ _ _ (by decide),Ji _ _ _ (by decide)];rfl
def Y7 (s:fY):(A0 s).data.toList=nS false s.data.toList:=by
 unfold A0;rw[Ji _ _ _ (by decide),Ji _ _ _ (by decide),Nu];exact(FD _ _ (gL _)).1
def Y8 (s:fY):(zD s).data.toList=nS true s.data.toList:=by
 unfold zD;rw[Ji _ _ _ (by decide),Nu];exact(FD _ _ (gL _)).2
def WuP (w:gm) (B b:Nat) (vv:gG×Bool) (p:gG) (l:List UInt8):Prop:=B<=b/\∃v,w.heap[b]?=some (gz #[p,v,vv.1,.bool vv.2] 95)/\w.ownsRow B 5 1 v l.length (Lib.byteCells l)/\v.ownBlock≠some b
def Wu (w:gm) (B b:Nat) (vv:gG×Bool) (l:List UInt8):Prop:=WuP w B b vv (.pointer none) l\/WuP w B b vv (gE b) l
def WuP.kept {B : Nat} {p : gG} {l:List UInt8} (h:WuP w B b vv p l) (d:Kept [] w w'):WuP w' B b vv p l:=by
 have⟨h0,v,h1,h2,h3⟩:=h;exact⟨h0,v,d.at h1 (by simp),d.ownsRow h2 (λ_ _=>by simp),h3⟩
def Wu.kept {B : Nat} {l:List UInt8} (h:Wu w B b vv l) (d:Kept [] w w'):Wu w' B b vv l:=h.imp (·.kept d) (·.kept d)
theorem UH (B b:Nat) (vv:gG×Bool) (l:List UInt8) (w:gm) (h:Wu w B b vv l):
  Calls prog 351 #[gE b] w λe w'=>e=pL/\WuP w' B b vv (gE b) l/\Kept [b] w w':=by
 have⟨j,hj,hj0⟩:=OP;rcases h with⟨s,v,d,n,r⟩|⟨s,v,d,n,r⟩
 .have H:w.cell? ⟨b,0,none⟩=some (.pointer none):=by rw[fN d];rfl
  have R:=gh d 0;have y:=iQ d;have f:w.shape? b=some (95,4):=by simp[World.shape?,d]
  have D:=(Kept.refl [b] w).setCell (p:=⟨b,0,none⟩) (.inl (by simp)) (gE b);have m:Hid (WuP (w.setCell ⟨b,0,none⟩ (gE b)) B b vv (gE b) l):=fM ⟨s,v,fR d 0 _,D.ownsRow n (λq V=>by grind),r⟩;have N:(w.setCell ⟨b,0,none⟩ (gE b)).cell? ⟨b,0,none⟩=some (gE b):=by rw[fN (fR d 0 _)];rfl
  have X:=Lib.run_to_unsafe (P:=prog) w (src:=91) (dst:=97) ⟨b,0,none⟩ underlying91 underlying97 hj hj0 f (show 0 < 4 by decide);have U:=Lib.run_from_unsafe (P:=prog) w (src:=97) (dst:=91) ⟨b,0,none⟩ underlying97 underlying91 hj f T4;have I:=DX (P:=prog) (w.setCell ⟨b,0,none⟩ (gE b)) (tp:=91) ⟨b,0,none⟩ underlying91 hj;go_enter func351,ntmps351;go_wp2;rw[Ya func369 (by rfl) (by rfl) rfl (e:=Extern.AbiNoEscape.same) rfl];rw[Lib.run_noEscape];simp only[Result.andThen];rw[Oper.upon_value];go_wp2;go_end0;exact⟨rfl,m,D⟩
 .have H:w.cell? ⟨b,0,none⟩=some (gE b):=by rw[fN d];rfl
  have y:=iQ d;have m:Hid (WuP w B b vv (gE b) l):=fM ⟨s,v,d,n,r⟩;have I:=DX (P:=prog) w (tp:=91) ⟨b,0,none⟩ underlying91 hj;go_enter func351,ntmps351;go_wp2;go_end0;exact⟨rfl,m,Kept.refl _ _⟩
theorem Qr (B b:Nat) (vv:gG×Bool) (l:List UInt8) (s:fY) (w w0:gm) (h:Wu w B b vv l) (a0:l.length+s.size<=140737488355328) (a3:B<=w.heap.size) (R:Kept [] w0 w) (a4:w0.heap.size<=B):
  Calls prog 326 #[gE b,gu s] w λe w'=>e=ig (.tuple #[fV s.size,.nilIface])/\Wu w' B b vv (l++s.data.toList)/\Kept [] w0 w'/\KB w w':=by
 have⟨i0,hi,hz0,hz1,hz2⟩:=uH abV;have Y:=h;have H:=R;go_enter func326,ntmps326;go_wp21;refine(UH B b vv l _ Y).mono ?_;rintro e w1 ⟨rfl,h1,n⟩;have⟨hB,v,hbk,hown,hne⟩:=h1;have X:KB w w1:=by
  rcases Y with⟨_,_,V,_⟩|⟨_,_,V,_⟩
  .exact .Vw n V
  .exact .Vw n V
 have c1:=fN hbk 1;dsimp at c1;have U:b < w1.heap.size:=iQ hbk;go_wp2_with (at_builtin;refine Lib.wpList_append_own_string _ rfl _ _ 55 9 rfl B 5 i0 underlying55 underlying9 hi hz0 hz1 hz2 _ _ _ rfl hown s rfl ?c3 ?c4 ?c5 ?_)
 case c3=>unfold maxLen;omega
 case c4=>omega
 case c5=>omega
 intro v' y f d _;have m:y.heap[b]?=some (gz #[gE b,v,vv.1,.bool vv.2] 95):=by
  rw[d.block b U (λe=>hne e.symm)];exact hbk
 have d1:=fN m 1;dsimp at d1;have f1:y.frozen? ⟨b,1,none⟩=false:=gh m 1;have⟨ao,cap,hv⟩:=gw f;subst hv;have a1:∀q,v.ownBlock=some q->B<=q:=λq D=>(hown.lt q D).1;have r:∀q,(Value.slice ao (l.length+s.size) cap).ownBlock=some q->q≠b:=λq D e=>by
  subst e;rcases f.2 with⟨e2,_⟩|⟨g,Z,a2,e2,_,hc,_⟩
  .grind
  .rw[e2]at D;have e3:=jv D;grind
 have kx:Kept [b] y (y.setCell ⟨b,1,none⟩ (.slice ao (l.length+s.size) cap)):=(Kept.refl [b] y).setCell (.inl (by simp)) _;have HP:Hid (Wu (y.setCell ⟨b,1,none⟩ (.slice ao (l.length+s.size) cap)) B b vv (l++s.data.toList)):=fM (.inr ⟨hB,_,fR m 1 _,by
  rw[Md,oj];exact kx.ownsRow f (λq D=>by grind),λe=>r b e rfl⟩)
 have N:Hid (Kept [] w0 (y.setCell ⟨b,1,none⟩ (.slice ao (l.length+s.size) cap))):=fM ((((H.next n (by simp;omega))).grown d (λq D=> .inr (by grind))).setCell (.inr (by grind)) _);have I:=(X.trans (KB.acz d hown)).trans (KB.Vw kx m);go_wp2;go_ret2;exact⟨rfl,HP,N,I⟩
theorem BA (B b g cap:Nat) (vv:gG×Bool) (l:List UInt8) (xs:List fY) (w w0:gm) (h:Wu w B b vv l) (hg:w.heap[g]?=some (gz (xs.map Value.string).toArray 9)) (q:l.length+(jw xs).length<=140737488355328) (R:Kept [] w0 w) (X:w0.heap.size<=B) (Y:xs.length<=4096):
  Calls prog 410 #[gE b,oo g xs.length cap] w λe w'=>e=pL/\Wu w' B b vv (l++jw xs)/\Kept [] w0 w'/\KB w w':=by
 obtain⟨n,V⟩:∃n,n=xs.length:=⟨_,rfl⟩;rw[<-V]at Y|-;have Z:=fM V;have HT:=h;have HG:=hg;have a0:=R;have H:=q;clear V;go_enter func410,ntmps410;go_wp21
 go_loopw [8] (λv wr=>∃i:Nat,v=fV i/\i<=n/\Wu wr B b vv (l++jw (xs.take i))/\Kept [] w0 wr/\KB w wr) (λv _=>n - (intOf v).toNat)
 case atStart=>grind[Wu,jw,KB]
 case round=>
  obtain⟨i,rfl,hi,s,hk,m⟩:=hrel;by_cases U:i < n
  .have h1:i < xs.length:=by rw[<-Z.out];exact U
   have gg:=m g _ _ HG (by decide);have hc:wr.cell? ⟨g,i,none⟩=some (gu xs[i]):=by rw[fN gg];simp[h1]
   have d:jw (xs.take (i+1))=jw (xs.take i)++xs[i].data.toList:=by
    rw[FP,qs h1,EQ];simp[jw]
   have f:(l++jw (xs.take i)).length+xs[i].size<=140737488355328:=by
    have e:=si List.length (si jw (FT (i+1) xs));rw[EQ,d]at e;have:=H;have es:xs[i].data.toList.length=xs[i].size:=Qt;simp only[oj]at e|-;omega
   have a1:B<=b/\b < wr.heap.size:=by rcases s with⟨r,_,hx,_⟩|⟨r,_,hx,_⟩<;>exact⟨r,iQ hx⟩
   have C:=Qr B b vv _ xs[i] wr w0 s f (by omega) hk X;rw[wA,<-d]at C;have HB:=fM m;generalize xs[i]=u at *;clear m;go_wp21;refine C.mono ?_;rintro e W2 ⟨rfl,I,D,N⟩;have y:=HB.trans N;go_wp2;go_roundw
   case rel=>grind
   case measure=>simp[intOf];omega
  .have he:xs.take i=xs:=BG (by rw[<-Z.out];omega);rw[he]at s;have I:=s;have D:=hk;have y:=m;clear m;go_wp2;go_end0;grind
theorem N8 (f m:List UInt8) (c:Nat) (n:1<=c) (h:m.length<=c*f.length):∀(k:Nat) (s:List UInt8),(Lib.replaceK f m k s).length<=c*s.length
 |0,s=>by simp only[Lib.replaceK];exact vm _ n
 |k+1,s=>by
  rw[Lib.replaceK];split
  .exact vm _ n
  .rename_i D;have I:=Lib.index_ge s f;have r:0<=Lib.index s f:=by
    have:¬Lib.index s f= -1:=λe=>D (by grind);omega
   have N:=Lib.index_room s f r;have R:(Lib.index s f).toNat+f.length<=s.length:=by omega
   have q:=N8 f m c n h k (s.drop ((Lib.index s f).toNat+f.length));generalize (Lib.index s f).toNat=i at *;simp only[oj,List.length_take,List.length_drop]at q|-;obtain⟨d,y⟩:∃d,s.length=i+f.length+d:=⟨s.length - (i+f.length),by omega⟩;rw[y]at q|-;have e1:i+f.length+d - (i+f.length)=d:=by omega
   rw[e1]at q;have e2:c*(i+f.length+d)=c*i+c*f.length+c*d:=by rw[Nat.mul_add,Nat.mul_add]
   have H:i<=c*i:=vm _ n;omega
theorem zX (s f d:fY) (c:Nat) (m:1<=c) (h:d.size<=c*f.size):(IP s f d).size<=c*s.size:=by
 have e1:s.size=s.data.toList.length:=Qu s;have e2:(IP s f d).size=(Lib.replaceAll s.data.toList f.data.toList d.data.toList).length:=by
  rw[Qu];simp[IP]
 rw[e1,e2];unfold Lib.replaceAll Lib.replace;split
 .exact vm _ m
 .exact N8 _ _ c m (by simp_all) _ _
def Ex (s:fY):(yT s).size<=15*s.size:=by
 have d:=zX s uK ke 5 (by decide) (by decide);have f:=zX (IP s uK ke) tG np 3 (by decide) (by decide);unfold yT;omega
def Kd (s:fY):(A0 s).size<=240*s.size:=by
 have d:=Ex s;have f:=zX (yT s) qJ lA 4 (by decide) (by decide);have h:=zX (IP (yT s) qJ lA) iO rW 4 (by decide) (by decide);unfold A0;omega
def Fs (s d f:fY) (w:gm) (r:LY w) (D:s.size<=2000000000) (h:1<=d.size) (y:f.size<=16):
  Calls prog 242 #[gu s,gu d,gu f] w λe w'=>e=ig (gu (IP s d f))/\Kept [] w w':=by
 have⟨⟨m,hm⟩,_⟩:=r;have q:=Lib.countB_le d h s.size s (gL _);refine(Tryz.strings_ReplaceAll s d f m w (by omega) hm h ?_).mono ?_
 .have:=Nat.mul_le_mul q y;omega
 .rintro e w' ⟨rfl,n⟩;exact⟨rfl,KE n⟩
def Nt (s:fY) (w:gm) (n:LY w) (D:s.size<=1048576):
  Calls prog 411 #[gu s] w λe w'=>e=ig (gu (yT s))/\Kept [] w w':=by
 have q:=Fs s uK ke w n (by omega) (by decide) (by decide);have H:=zX s uK ke 5 (by decide) (by decide);have m:=(λw' (y:Kept [] w w')=>Fs (IP s uK ke) tG np w' (n.kept y) (by omega) (by decide) (by decide));rw[show IP (IP s uK ke) tG np=yT s from rfl]at m;generalize IP s uK ke=u at *;generalize yT s=v at *;go_enter func411,ntmps411;go_wp21;refine q.mono ?_;rintro e w1 ⟨rfl,d⟩;have r:=m w1 d;go_wp21;refine r.mono ?_;rintro e I ⟨rfl,h⟩;have f:=d.trans h;go_wp2;go_ret;exact⟨rfl,f⟩
theorem Wu.cells {B : Nat} {l:List UInt8} (h:Wu w B b vv l):∃p v,w.heap[b]?=some (gz #[p,v,vv.1,.bool vv.2] 95)/\B<=b:=by
 rcases h with⟨d,v,f,_⟩|⟨d,v,f,_⟩
 all_goals grind
theorem ait (B b:Nat) (vv:gG×Bool) (l:List UInt8) (s:fY) (w w0:gm) (h:Wu w B b vv l) (r:LY w0) (hf:vv.2=false) (hs:s.size<=1048576) (N:l.length+240*s.size<=140737488355328) (d:Kept [] w0 w) (D:w0.heap.size<=B):
  Calls prog 439 #[gE b,gu s] w λe w'=>e=pL/\Wu w' B b vv (l++(A0 s).data.toList)/\Kept [] w0 w':=by
 have⟨p,v,hb,hBb⟩:=h.cells;have c3:w.cell? ⟨b,3,none⟩=some (.bool false):=by rw[fN hb,<-hf];rfl
 have a0:=iQ hb;have z1:=Ex s;have z3:=Kd s;have z2:=zX (yT s) qJ lA 4 (by decide) (by decide);have R:=Nt s w (r.kept d) hs;have U:=(λw' (m:Kept [] w w')=>Fs (yT s) qJ lA w' ((r.kept d).kept m) (by omega) (by decide) (by decide));have H:=(λw' (m:Kept [] w w')=>Fs (IP (yT s) qJ lA) iO rW w' ((r.kept d).kept m) (by omega) (by decide) (by decide));rw[show IP (IP (yT s) qJ lA) iO rW=A0 s from rfl]at H;have I:=(λw' (m:Kept [] w w')=>BA B b w'.heap.size 1 vv l [A0 s] (w'.alloc (gz #[gu (A0 s)] 9)) w0 (h.kept (m.alloc _)) (fP w' _) (by simp only[jw,DY,vn,FO];rw[show(A0 s).data.toList.length=(A0 s).size from Qt];omega) ((d.trans m).alloc _) D (by simp));have Z:jw [A0 s]=(A0 s).data.toList:=by simp[jw]
 rw[Z]at I;generalize IP (yT s) qJ lA=u2 at *;generalize yT s=u1 at *;generalize A0 s=u3 at *;go_enter func439,ntmps439;go_wp21;refine R.mono ?_;rintro e w1 ⟨rfl,f⟩;have V:=U w1 f;go_wp21;refine V.mono ?_;rintro e w2 ⟨rfl,n⟩;have X:=H w2 (f.trans n);have q:=f.trans n;go_wp21;refine X.mono ?_;rintro e w3 ⟨rfl,y⟩;have Y:=I w3 (q.trans y);go_wp21;refine Y.mono ?_;rintro e w4 ⟨rfl,H4,H5,_⟩;go_wp2;go_end0;grind
theorem ais (B b:Nat) (vv:gG×Bool) (l:List UInt8) (s:fY) (w w0:gm) (h:Wu w B b vv l) (r:vv.2=true) (n:l.length+s.size<=140737488355328) (d:Kept [] w0 w) (f:w0.heap.size<=B):
  Calls prog 439 #[gE b,gu s] w λe w'=>e=pL/\Wu w' B b vv (l++s.data.toList)/\Kept [] w0 w':=by
 have⟨p,v,hb,hBb⟩:=h.cells;have I:w.cell? ⟨b,3,none⟩=some (.bool true):=by rw[fN hb,<-r];rfl
 have y:=iQ hb;have m:=BA B b w.heap.size 1 vv l [s] (w.alloc (gz #[gu s] 9)) w0 (h.kept ((Kept.refl [] w).alloc _)) (fP w _) (by simp only[jw,DY,vn,FO];simp_all) (d.alloc _) f (by simp);have q:jw [s]=s.data.toList:=by simp[jw]
 rw[q]at m;go_enter func439,ntmps439;go_wp21;refine m.mono ?_;rintro e N ⟨rfl,D,H,_⟩;go_wp2;refine ou (Iv rfl _ _ _) rfl ?_;grind
theorem Wu.set {w:gm} {B b:Nat} {vv:gG×Bool} {l:List UInt8} (h:Wu w B b vv l) (a:Bool):Wu (w.setCell ⟨b,3,none⟩ (.bool a)) B b (vv.1,a) l:=by
 have r:Kept [b] w (w.setCell ⟨b,3,none⟩ (.bool a)):=(Kept.refl [b] w).setCell (.inl (by simp)) _;have go:∀p,WuP w B b vv p l->WuP (w.setCell ⟨b,3,none⟩ (.bool a)) B b (vv.1,a) p l:=by
  rintro p ⟨d,v,f,m,n⟩;exact⟨d,v,fR f 3 _,r.ownsRow m (λq s=>by grind),n⟩
 grind[Wu]
def NK (x y s:fY):(jw [x,s,y]).length=x.size+s.size+y.size:=by
 simp only[jw,DY,vn,FO,oj];rw[show s.data.toList.length=s.size from Qt,show x.data.toList.length=x.size from Qt,show y.data.toList.length=y.size from Qt];omega
theorem agc (B b:Nat) (vv:gG×Bool) (l:List UInt8) (s:fY) (w w0:gm) (h:Wu w B b vv l) (H:l.length+s.size+3<=140737488355328) (q:Kept [] w0 w) (r:w0.heap.size<=B):
  Calls prog 409 #[gE b,gu s] w λe w'=>e=pL/\Wu w' B b (vv.1,false) (l++jw [qt,s,iO])/\Kept [] w0 w':=by
 have⟨p,v,hb,hBb⟩:=h.cells;have I:=fN hb 3;have X:=gh hb 3;dsimp at I;have R:=iQ hb;have D:=h.set false;have d:Kept [] w0 (w.setCell ⟨b,3,none⟩ (.bool false)):=q.setCell (.inr (by grind)) _;have N:=NK qt iO s;have e1:qt.size=2:=rfl;have e2:iO.size=1:=rfl;rw[e1,e2]at N;obtain⟨W,f⟩:∃W,W=w.setCell ⟨b,3,none⟩ (.bool false):=⟨_,rfl⟩;rw[<-f]at D d;have y:=BA B b W.heap.size 3 _ l [qt,s,iO] (W.alloc (gz #[gu qt,gu s,gu iO] 9)) w0 (D.kept ((Kept.refl [] W).alloc _)) (fP W _) (by omega) (d.alloc _) r (by simp);have n:W.heap.size=w.heap.size:=by rw[f];simp
 rw[n]at y;have m:=fM f.symm;generalize jw [qt,s,iO]=J at *;clear f;go_enter func409,ntmps409;go_wp21;rw[m.out];refine y.mono ?_;rintro e Y ⟨rfl,U,V,_⟩;go_wp2;go_end0;grind
theorem aad (B b:Nat) (vv:gG×Bool) (l:List UInt8) (s:fY) (w w0:gm) (h:Wu w B b vv l) (m:l.length+s.size+7<=140737488355328) (d:Kept [] w0 w) (f:w0.heap.size<=B):
  Calls prog 407 #[gE b,gu s] w λe w'=>e=pL/\Wu w' B b vv (l++jw [nh,s,oT])/\Kept [] w0 w':=by
 have q:=NK nh oT s;have e1:nh.size=4:=rfl;have e2:oT.size=3:=rfl;rw[e1,e2]at q;have n:=BA B b w.heap.size 3 _ l [nh,s,oT] (w.alloc (gz #[gu nh,gu s,gu oT] 9)) w0 (h.kept ((Kept.refl [] w).alloc _)) (fP w _) (by omega) (d.alloc _) f (by simp);generalize jw [nh,s,oT]=J at *;go_enter func407,ntmps407;go_wp21;refine n.mono ?_;rintro e D ⟨rfl,r,y,_⟩;go_wp2;go_end0;grind
theorem aae (B b:Nat) (vv:gG×Bool) (l:List UInt8) (s:fY) (w w0:gm) (h:Wu w B b vv l) (m:l.length+s.size+11<=140737488355328) (d:Kept [] w0 w) (f:w0.heap.size<=B):
  Calls prog 438 #[gE b,gu s] w λe w'=>e=pL/\Wu w' B b vv (l++jw [iI,s,iO])/\Kept [] w0 w':=by
 have q:=NK iI iO s;have e1:iI.size=10:=rfl;have e2:iO.size=1:=rfl;rw[e1,e2]at q;have n:=BA B b w.heap.size 3 _ l [iI,s,iO] (w.alloc (gz #[gu iI,gu s,gu iO] 9)) w0 (h.kept ((Kept.refl [] w).alloc _)) (fP w _) (by omega) (d.alloc _) f (by simp);generalize jw [iI,s,iO]=J at *;go_enter func438,ntmps438;go_wp21;refine n.mono ?_;rintro e D ⟨rfl,r,y,_⟩;go_wp2;go_end0;grind
def RA (s:fY):(zD s).size<=90*s.size:=by
 have d:=Ex s;have f:=zX (yT s) nZ pd 6 (by decide) (by decide);unfold zD;omega
def Dl (L:la):List UInt8:=L.flatMap λa=>jw [AA,a.1,rB,zD a.2,nZ]
def U0 (s:fY) (gx:la):List UInt8:=jw [qJ,s]++Dl gx++jw [iO]
theorem agb (B b:Nat) (vv:gG×Bool) (vd:fY->Bool) (l:List UInt8) (s:fY) (av:gG) (gx:la) (w w0:gm) (h:Wu w B b vv l) (hv:agV w0 vv.1 vd) (hg:LY w0) (hs:s.size<=5000) (hA:uL w av gx) (aI:gx.length<=16) (ha:∀a∈gx,a.1.size<=5000/\a.2.size<=66000) (aE:l.length+6000+16*6000000<=140737488355328) (ad:Kept [] w0 w) (a1:w0.heap.size<=B):
  Calls prog 408 #[.pointer (some ⟨b,0,none⟩),.string s,av] w λe w'=>e= .returned (.bool (!vd s))/\(∃f,Wu w' B b (vv.1,s.toList==[115,116,121,108,101]) f/\f.length<=l.length+6000+gx.length*6000000/\f≠[]/\f=l++U0 s gx)/\Kept [] w0 w':=by
 have⟨vx,fl⟩:=vv;have⟨kv,lb,hvx,hcf,hcall⟩:=hv;have af:vx= .func (.func kv) #[] lb:=hvx;subst af;clear hvx;have⟨ao,cp,hav⟩:=gw hA;subst hav;have ez:(jw [qJ,s]).length=s.size+1:=by
  simp only[jw,DY,vn,FO,oj];rw[show s.data.toList.length=s.size from Qt];simp;omega
 have aa:(jw [iO]).length=1:=rfl;have C1:=fM (BA B b w.heap.size 2 _ l [qJ,s] (w.alloc (.cells #[.string qJ,.string s] 9 (0,0))) w0 (h.kept ((Kept.refl [] w).alloc _)) (fP w _) (by omega) (ad.alloc _) a1 (by simp));have C2:=fM (λw' f (hw:Wu w' B b (.func (.func kv) #[] lb,fl) f) (hl:f.length+1<=140737488355328) (hk:Kept [] w0 w')=>BA B b w'.heap.size 1 _ _ [iO] (w'.alloc (.cells #[.string iO] 9 (0,0))) w0 (hw.kept ((Kept.refl [] w').alloc _)) (fP w' _) (by omega) (hk.alloc _) a1 (by simp));have HC:=fM hcall;have a3:=fM (hA.alloc (.cells #[.string qJ,.string s] 9 (0,0)));have EZ:=fM ez;have V:jw [qJ,s]≠[]:=by simp[jw]
 have au:=fM V;have ai:=fM aa;have aj:=fM ha;have ak:=fM hg;clear V ha hg;unfold U0;generalize jw [qJ,s]=J1 at *;generalize jw [iO]=J2 at *;clear h ad ez aa hcall hA;go_enter func408,ntmps408;go_wp21;refine C1.out.mono ?_;rintro e w1 ⟨rfl,h1,k1,ah⟩;have a4:=fM (ah.row a3.out (by decide));have H1:=fM h1;have K1:=fM k1;clear h1 k1 ah a3;go_wp21
 go_loopw [15] (λv wr=>∃(d:Nat) (f:List UInt8),v= .int .i64 d/\d<=gx.length/\Wu wr B b (.func (.func kv) #[] lb,fl) f/\f.length<=l.length+5001+d*6000000/\f≠[]/\f=l++(J1++Dl (gx.take d))/\Kept [] w0 wr/\uL wr (.slice ao gx.length cp) gx) (λv _=>gx.length - (intOf v).toNat)
 case atStart=>exact⟨0,_,rfl,iM _,H1.out,by rw[oj,EZ.out];omega,λe=>au.out (List.append_eq_nil_iff.1 e).2,by simp[Dl],K1.out,a4.out⟩
 case round=>
  obtain⟨d,f,rfl,aJ,hW,aC,D,n,R,r⟩:=hrel;by_cases a0:d < gx.length
  .have aK:gx.length≠0:=by omega
   obtain⟨U,aA⟩:∃U,ao=some ⟨U,0,none⟩:=by
    rcases r.2 with⟨e,h0⟩|⟨q,aD,aH,e,_⟩
    all_goals grind
   subst aA;have⟨f0,f1⟩:=U1 gx d a0;have q0:wr.cell? ⟨U,d*2,none⟩=some (.string gx[d].1):=by rw[r.cellAt (d*2) (by omega)];exact f0
   have q1:wr.cell? ⟨U,d*2+1,none⟩=some (.string gx[d].2):=by rw[r.cellAt (d*2+1) (by omega)];exact f1
   have⟨z1,z2⟩:=aj.out gx[d] (uG a0);have H:Dl (gx.take (d+1))=Dl (gx.take d)++jw [AA,gx[d].1,rB,zD gx[d].2,nZ]:=by
    rw[FP,qs a0];simp only[Dl,Option.toList,On,DY,vn,FO]
   have a9:=fM H;have aq:=fM n;clear H n;generalize gx[d].1=nm at *;generalize gx[d].2=m at *;clear f0 f1;have H2:=fM hW;have K2:=fM R;have a7:=fM D;have A2:=fM r;clear hW R r D;go_wp21;obtain⟨ba,Y⟩:∃ba,ba=wr.heap.size:=⟨_,rfl⟩;obtain⟨X,N⟩:∃X,X=wr.alloc (.cells #[.string nm,.string m] 293 (0,0)):=⟨_,rfl⟩;have a5:Hid (X.heap[ba]?=some (.cells #[.string nm,.string m] 293 (0,0))):=by rw[N,Y];exact fM (fP wr _)
   have k0:Kept [] wr X:=by rw[N];exact(Kept.refl [] wr).alloc _
   have a6:=fM ((ak.out.kept K2.out).kept k0);obtain⟨G,hG⟩:∃G:gm->Prop,G=λW=>∃l2,Wu W B b (.func (.func kv) #[] lb,fl) l2/\l2.length<=l.length+5001+(d+1)*6000000/\l2≠[]/\l2=l++(J1++Dl (gx.take (d+1)))/\Kept [] w0 W/\uL W (.slice (some ⟨U,0,none⟩) gx.length cp) gx:=⟨_,rfl⟩;have ax:Hid (∀W g',Kept [] X W->W.heap[g']?=some (.cells #[.string AA,.string nm,.string rB,.string (zD m),.string nZ] 9 (0,0))->Calls prog 410 #[.pointer (some ⟨b,0,none⟩),.slice (some ⟨g',0,none⟩) 5 5] W λe W2=>e= .returned (.tuple #[])/\G W2):=fM (by
    intro W g' q aB;have zj:(jw [AA,nm,rB,zD m,nZ]).length<=5946004:=by
     have:=RA m;simp only[jw,DY,vn,FO,oj];rw[show nm.data.toList.length=nm.size from Qt,show(zD m).data.toList.length=(zD m).size from Qt];simp;omega
    refine(BA B b g' 5 _ f [AA,nm,rB,zD m,nZ] W w0 (H2.out.kept (k0.trans q)) aB (by omega) (K2.out.trans (k0.trans q)) a1 (by simp)).mono ?_;rintro e W2 ⟨rfl,r1,r2,r3⟩;rw[hG];exact⟨rfl,_,r1,by rw[oj];omega,λe=>a7.out (List.append_eq_nil_iff.1 e).1,(by rw[a9.out,aq.out];simp),r2,r3.row ((k0.trans q).ownsRow A2.out (λ_ _=>by simp)) (by decide)⟩)
   have al:=fM hG;have aw:=fM N.symm;clear hG N k0 H2 A2 a7 a4 H1 K1 C2 HC q0 q1 aC;rw[<-Y,aw.out];clear Y;refine vR (by rfl) ?_;refine qp (λ(g:Nat) z=>⟨#[.pointer (some ⟨b,0,none⟩),.string s,.slice (some ⟨U,0,none⟩) gx.length cp,undef,undef,undef,.bool false,undef,.pointer (some ⟨ba,0,none⟩),.pointer (some ⟨b,0,none⟩),.string s,.slice (some ⟨w.heap.size,0,none⟩) 2 2,.tuple #[],.slice (some ⟨U,0,none⟩) gx.length cp,.int .i64 (gx.length:Int),.int .i64 (d:Int),.bool true,.pointer (some ⟨U,d*2,none⟩),.agg #[.string nm,.string m],ce z 0 u19 (.pointer (some ⟨b,0,none⟩)),ce z 1 u20 (.pointer (some ⟨ba,0,none⟩)),ce z 2 u21 (.string nm),ce z 3 u22 (.pointer (some ⟨ba,1,none⟩)),ce z 4 u23 (.string m),ce z 5 u24 (.string (yT m)),ce z 6 u25 (.string (zD m)),ce z 7 u26 (.slice (some ⟨g,0,none⟩) 5 5),ce z 8 u27 (.tuple #[]),u28,undef,undef,undef,undef,undef,undef,undef,undef,undef,undef,undef,undef,undef,undef,undef],[]⟩) (λg z W=>(dn z 8=false->Kept [] X W/\(dn z 7=true->W.heap[g]?=some (.cells #[.string AA,.string nm,.string rB,.string (zD m),.string nZ] 9 (0,0))))/\(dn z 8=true->G W)) 9 [[],[],[1],[],[3],[3,4],[3,4,5],[1,2,3,4,5,6],[0,1,2,3,4,5,6,7]] 0 rfl rfl ⟨λ_=>⟨(Kept.refl [] X).drew,λh=>by cases h⟩,λh=>by cases h⟩ ?_ ?_
   .repeat' first|exact nu|refine nr ?_ ?_
    all_goals
     rintro g z W hI hc hn;simp[Dh]at hc;have h8:dn z 8=false:=by first|simp_all|simp[hc]
     have⟨q,h7⟩:=hI.1 h8;have c0:=fN (q.at a5.out (by simp)) 0;have c1:=fN (q.at a5.out (by simp)) 1;dsimp at c0 c1;have n8:∀{k},k≠8->∀{p:Prop},dn (z.setIfInBounds k true) 8=true->p:=λhk _ h=>by rw[pr hk,h8]at h;cases h
     refine jY rfl ?_;intro K' y;simp only[aa3,hc];go_simp
     first
     |refine y _ _ ⟨g,?_,λ_=>⟨q,qC h7 (by decide)⟩,n8 (by decide)⟩
     |refine(Nt m W (a6.out.kept q) (by omega)).mono ?_;rintro e W2 ⟨rfl,Z⟩;refine y _ _ ⟨g,?_,λ_=>⟨q.trans Z,λh=>by rw[pr (by decide),hn 7 (by decide)]at h;cases h⟩,n8 (by decide)⟩
     |refine(Fs (yT m) nZ pd W (a6.out.kept q) (by have:=Ex m;omega) (by decide) (by decide)).mono ?_;rintro e W2 ⟨rfl,Z⟩;refine y _ _ ⟨g,?_,λ_=>⟨q.trans Z,λh=>by rw[pr (by decide),hn 7 (by decide)]at h;cases h⟩,n8 (by decide)⟩
     |refine y _ _ ⟨W.heap.size,?_,λ_=>⟨q.alloc _,λ_=>fP W _⟩,n8 (by decide)⟩
     |refine(ax.out W g q (h7 (by simp[hc]))).mono ?_;rintro e W2 ⟨rfl,az⟩;refine y _ _ ⟨g,?_,λh=>(by rw[sM]at h;cases h),λ_=>az⟩
     simp[WR,agt,aa3,hc,zD]
   .rintro g W hI;simp only[aa2];have an:=fM (hI.2 yt);clear hI;rename_i KK ac;refine ac _ _ ?_;clear ac KK;go_wp2;go_roundw
    case rel=>
     have hf:=an.out;rw[al.out]at hf;have⟨l2,r1,r2,r3,re,r4,r5⟩:=hf;exact⟨d+1,l2,by go_num,by omega,r1,r2,r3,re,r4,r5⟩
    case measure=>simp[intOf];omega
  .have e:d=gx.length:=by omega
   have ag:f++J2=l++(J1++Dl gx++J2):=by rw[n,e,List.take_length];simp only[wA]
   have ay:=fM ag;clear ag n;have D2:=fM (C2.out wr f hW (by omega) R);clear C2 hW R r;go_wp21;refine D2.out.mono ?_;rintro e w2 ⟨rfl,h2,k2,_⟩;have⟨p,v,hb,hBb⟩:=h2.cells;have c3:w2.cell? ⟨b,3,none⟩=some (.bool fl):=by rw[fN hb];rfl
   have c2:w2.cell? ⟨b,2,none⟩=some (.func (.func kv) #[] lb):=by rw[fN hb];rfl
   have f3:=gh hb 3;have aF:=iQ hb;obtain⟨I,ae⟩:∃I,I=(s.toList==[115,116,121,108,101]):=⟨_,rfl⟩;have ab:=h2.set I;have a2:Kept [] w0 (w2.setCell ⟨b,3,none⟩ (.bool I)):=k2.setCell (.inr (by show w0.heap.size<=b;omega)) _;have aG:(w2.setCell ⟨b,3,none⟩ (.bool I)).cell? ⟨b,2,none⟩=some (.func (.func kv) #[] lb):=by rw[fN (fR hb 3 _)];rfl
   have D3:=fM (HC.out _ a2 s);have ar:=fM (show f++J2≠[]from λe=>D (List.append_eq_nil_iff.1 e).1);have ap:=fM (show(f++J2).length<=l.length+6000+gx.length*6000000 by rw[oj,ai.out];omega);have H2:=fM ab;have K2:=fM a2;have a8:=fM ae;clear h2 k2 hb HC ab a2;generalize hq:vd s=q at D3;have HQ:=fM hq;clear hq;go_wp21;rw[<-a8.out];refine D3.out.mono ?_;rintro e w3 ⟨rfl,rfl⟩;go_wp2;go_ret;have e9:=a8.out;subst e9;exact⟨by rw[HQ.out];rfl,⟨_,H2.out,ap.out,ar.out,ay.out⟩,K2.out⟩
def pT:Ev->Bool
 | .tx _=>false
 |_=>true
def xC:Ev->Bool
 | .dt s=>decide (s.size<=5000)
 | .cm s=>decide (s.size<=5000)
 | .tx s=>decide (s.size<=1048576)
 | .enter s gx=>decide (gx.length<=16)&&(gx.all λa=>decide (a.1.size<=5000)&&decide (a.2.size<=66000))&&decide (s.size<=5000)
 | .uj s=>decide (s.size<=5000)
def LL:Ev->Nat
 | .tx s=>240*s.size
 | .enter _ _=>6000+16*6000000
 |_=>6000
def uD (d:List Ev):Nat:=(d.map LL).sum
def xh (d:List Ev) (e:Ev):uD (d++[e])=uD d+LL e:=by simp[uD]
def adp {a b : List Ev} (h:a <+:b):uD a<=uD b:=by
 obtain⟨r,rfl⟩:=h;simp[uD]
def pi (x:List UInt8×Bool):Ev->List UInt8×Bool
 | .dt s=>(x.1++jw [iI,s,iO],x.2)
 | .cm s=>(x.1++jw [nh,s,oT],x.2)
 | .tx s=>(x.1++(if x.2 then s else A0 s).data.toList,x.2)
 | .enter s gx=>(x.1++U0 s gx,s.toList==[115,116,121,108,101])
 | .uj s=>(x.1++jw [qt,s,iO],false)
def M4 (d:List Ev):List UInt8×Bool:=d.foldl pi ([],false)
def BB (d:List Ev) (e:Ev):M4 (d++[e])=pi (M4 d) e:=by simp[M4]
def T5 (B b:Nat) (vv:gG) (vd:fY->Bool) (tot:List Ev) (w0:gm) (hv:agV w0 vv vd) (hg:LY w0) (n:w0.heap.size<=B) (ht:∀e∈tot,xC e=true) (hw:uD tot<=140737488355328):
  Vis 83 (gE b) vd tot w0 (λpre W=>Wu W B b (vv,(M4 pre).2) (M4 pre).1/\(M4 pre).1.length<=uD pre/\(pre.any pT=true->(M4 pre).1≠[])):=by
 have last:∀{pre R},pre++[R] <+:tot->xC R=true/\uD pre+LL R<=140737488355328:=by
  intro pre R h;refine⟨ht R (h.subset (by simp)),?_⟩;have:=adp h;rw[xh]at this;omega
 refine {mono:=?_,dt:=λs=>?_,cm:=λs=>?_,tx:=λs=>?_,uj:=λs=>?_,enter:=?_}
 .rintro pre W W' ⟨m,q⟩ hk;exact⟨m.kept hk,q⟩
 .refine⟨438,gE b,λw=>by kernel_rfl,λw=>by kernel_rfl,enters_of func438 (by kernel_rfl) rfl,λpre W D H I=>?_⟩;obtain⟨m,q⟩:=last I;simp only[xC,BC,LL]at m q;obtain⟨f,N,d⟩:=H;simp only[BB];generalize M4 pre=x at *;obtain⟨l,a⟩:=x;dsimp only[pi]at f N d|-;refine(aae B b (vv,a) l s W w0 f (by omega) D n).mono ?_;rintro e W' ⟨rfl,r,y⟩;refine⟨rfl,⟨r,?_,?_⟩,y⟩
  .rw[xh,oj,NK,show iI.size=10 from rfl,show iO.size=1 from rfl];simp only[LL];omega
  .intro _;simp[jw]
 .refine⟨407,gE b,λw=>by kernel_rfl,λw=>by kernel_rfl,enters_of func407 (by kernel_rfl) rfl,λpre W D H I=>?_⟩;obtain⟨m,q⟩:=last I;simp only[xC,BC,LL]at m q;obtain⟨f,N,d⟩:=H;simp only[BB];generalize M4 pre=x at *;obtain⟨l,a⟩:=x;dsimp only[pi]at f N d|-;refine(aad B b (vv,a) l s W w0 f (by omega) D n).mono ?_;rintro e W' ⟨rfl,r,y⟩;refine⟨rfl,⟨r,?_,?_⟩,y⟩
  .rw[xh,oj,NK,show nh.size=4 from rfl,show oT.size=3 from rfl];simp only[LL];omega
  .intro _;simp[jw]
 .refine⟨439,gE b,λw=>by kernel_rfl,λw=>by kernel_rfl,enters_of func439 (by kernel_rfl) rfl,λpre W D H I=>?_⟩;obtain⟨m,q⟩:=last I;simp only[xC,BC,LL]at m q;obtain⟨f,N,d⟩:=H;simp only[BB];generalize M4 pre=x at *;obtain⟨l,a⟩:=x;dsimp only[pi]at f N d|-;have U:∀u:fY,u.size<=240*s.size->(l++u.data.toList).length<=uD (pre++[.tx s])/\((pre++[Ev.tx s]).any pT=true->l++u.data.toList≠[]):=by
   intro u hu;refine⟨?_,?_⟩
   .rw[xh,oj,show u.data.toList.length=u.size from Qt];simp only[LL];omega
   .intro h;rw[List.any_append]at h;have V:pre.any pT=true:=by simpa [pT]using h
    have:=d V;intro e;exact this (List.append_eq_nil_iff.1 e).1
  cases a with
  |false=>
   refine(ait B b (vv,false) l s W w0 f hg rfl m (by omega) D n).mono ?_;rintro e W' ⟨rfl,r,y⟩;obtain⟨X,Y⟩:=U _ (Kd s);exact⟨rfl,⟨r,X,Y⟩,y⟩
  |true=>
   refine(ais B b (vv,true) l s W w0 f rfl (by omega) D n).mono ?_;rintro e W' ⟨rfl,r,y⟩;obtain⟨X,Y⟩:=U s (by omega);exact⟨rfl,⟨r,X,Y⟩,y⟩
 .refine⟨409,gE b,λw=>by kernel_rfl,λw=>by kernel_rfl,enters_of func409 (by kernel_rfl) rfl,λpre W D H I=>?_⟩;obtain⟨m,q⟩:=last I;simp only[xC,BC,LL]at m q;obtain⟨f,N,d⟩:=H;simp only[BB];generalize M4 pre=x at *;obtain⟨l,a⟩:=x;dsimp only[pi]at f N d|-;refine(agc B b (vv,a) l s W w0 f (by omega) D n).mono ?_;rintro e W' ⟨rfl,r,y⟩;refine⟨rfl,⟨r,?_,?_⟩,y⟩
  .rw[xh,oj,NK,show qt.size=2 from rfl,show iO.size=1 from rfl];simp only[LL];omega
  .intro _;simp[jw]
 .refine⟨408,gE b,λw=>by kernel_rfl,λw=>by kernel_rfl,enters_of func408 (by kernel_rfl) rfl,λpre W s av gx D H I hA a0=>?_⟩;obtain⟨m,q⟩:=last I;simp only[xC,pW,BC,LV,LL]at m q;obtain⟨⟨V,h8⟩,h5⟩:=m;obtain⟨f,N,d⟩:=H;simp only[BB];generalize M4 pre=x at *;obtain⟨l,a⟩:=x;dsimp only[pi]at f N d|-;refine(agb B b (vv,a) vd l s av gx W w0 f hv hg h5 hA V h8 (by omega) D n).mono ?_;rintro e W' ⟨rfl,⟨l',r,h9,Z,rfl⟩,y⟩;refine⟨⟨_,rfl,.inl rfl⟩,⟨r,?_,λ_=>Z⟩,y⟩;rw[xh];simp only[LL];have:gx.length*6000000<=16*6000000:=Nat.mul_le_mul_right _ V;omega
mutual
def VkT (vd:fY->Bool):Tn->Prop
 | .el name _ ks=>(vd name=true->ks=[])/\VkS vd ks
 |_=>True
def VkS (vd:fY->Bool):List Tn->Prop
 |[]=>True
 |t::ts=>VkT vd t/\VkS vd ts
end
def yY (vd:fY->Bool) (x:List UInt8×Bool):Ev->List UInt8×Bool
 | .uj s=>if vd s then (x.1,false)else pi x (.uj s)
 |e=>pi x e
mutual
theorem aeT (n:∀s,vd s=true->(s.toList==[115,116,121,108,101])=false):∀(t:Tn) (x:List UInt8×Bool),VkT vd t->(D6 (λ_=>false) t).foldl (yY vd) x=(D6 vd t).foldl pi x
 | .el name gx ks,x,h=>by
  unfold VkT at h;by_cases d:vd name=true
  .have m:=h.1 d;subst m;simp only[D6,d,vo,ru,rj,sA,rp,List.foldl_cons,List.foldl_nil];grind[yY,pi]
  .have f:vd name=false:=by simpa using d
   simp only[D6,f,ru,rj,List.foldl_cons,wj,List.foldl_nil];rw[Pp n ks _ h.2];grind[yY]
 | .tx s,x,_=>rfl
 | .cm s,x,_=>rfl
 | .dt s,x,_=>rfl
theorem Pp (f:∀s,vd s=true->(s.toList==[115,116,121,108,101])=false):∀(d:List Tn) (x:List UInt8×Bool),VkS vd d->(sA (λ_=>false) d).foldl (yY vd) x=(sA vd d).foldl pi x
 |[],x,_=>rfl
 |t::d,x,h=>by
  unfold VkS at h;simp only[sA,wj];rw[aeT f t x h.1,Pp f d _ h.2]
end
def bs (s:fY):List UInt8:=s.data.toList
def yX (s:fY):Bool:=s.toList==[115,116,121,108,101]
def rK (vd:fY->Bool) (x:List UInt8×Bool) (a:It):List UInt8×Bool:=
 if a.k=1 then (x.1++[60,33,68,79,67,84,89,80,69,32]++bs a.s++[62],x.2)
 else if a.k=2 then (x.1++[60,33,45,45]++bs a.s++[45,45,62],x.2)
 else if a.k=3 then (x.1++(if x.2 then bs a.s else nS false (bs a.s)),x.2)
 else if a.k=4 then (x.1++[60]++bs a.s,yX a.s)
 else if a.k=5 then (x.1++[32]++bs a.s++[61,34]++nS true (bs a.t)++[34],x.2)
 else if a.k=6 then (if vd a.s then x.1 else x.1++[60,47]++bs a.s++[62],false)
 else x
def oX (vd:fY->Bool) (x:List UInt8×Bool) (a:It) (d:Bool):List UInt8×Bool:=
 if (a.k=4\/a.k=5)/\d=false then ((rK vd x a).1++[62],(rK vd x a).2)else rK vd x a
def nxA:List It->Bool
 |[]=>false
 |a::_=>decide (a.k=5)
def NM (vd:fY->Bool):List It->List UInt8×Bool->List UInt8×Bool
 |[],x=>x
 |a::l,x=>NM vd l (oX vd x a (nxA l))
def ah2:∀d:List Ev,nxA (jI d)=false
 |[]=>rfl
 |e::d=>by cases e<;>rfl
def Xm (vd:fY->Bool) (R:List It) (d:nxA R=false):∀(gx:la) (x:List UInt8×Bool),NM vd ((gx.map λa=>(⟨5,a.1,a.2⟩:It))++R) x=if gx=[]then NM vd R x else NM vd R (x.1++Dl gx++[62],x.2)
 |[],x=>rfl
 |a::gx,x=>by
  have e1:(rK vd x ⟨5,a.1,a.2⟩)=(x.1++jw [AA,a.1,rB,zD a.2,nZ],x.2):=by
   simp[rK,bs,jw,<-Y8]
  simp only[yH,tU,NM];cases gx with
  |nil=>
   have e2:oX vd x ⟨5,a.1,a.2⟩ (nxA (List.map (λa:fY×fY=>(⟨5,a.1,a.2⟩:It)) []++R))=(x.1++jw [AA,a.1,rB,zD a.2,nZ]++[62],x.2):=by
    have:nxA (List.map (λa:fY×fY=>(⟨5,a.1,a.2⟩:It)) []++R)=false:=d;rw[this];unfold oX;rw[gv ⟨.inr rfl,rfl⟩,e1]
   rw[e2];simp[Dl]
  |cons b gx=>
   have e2:oX vd x ⟨5,a.1,a.2⟩ (nxA (List.map (λa:fY×fY=>(⟨5,a.1,a.2⟩:It)) (b::gx)++R))=(x.1++jw [AA,a.1,rB,zD a.2,nZ],x.2):=by
    unfold oX;rw[gH (by simp[nxA]),e1]
   rw[e2,Xm vd R d (b::gx)];rw[gH (by simp),gH (by simp)];simp[Dl]
def uS (vd:fY->Bool):∀(d:List Ev) (x:List UInt8×Bool),NM vd (jI d) x=d.foldl (yY vd) x
 |[],x=>rfl
 |e::d,x=>by
  have f:=ah2 d;show NM vd (ui e++jI d) x=d.foldl (yY vd) (yY vd x e);cases e with
  |dt s=>
   show NM vd (jI d) (oX vd x ⟨1,s,⟨#[]⟩⟩ _)=_;rw[uS vd d]
   congr 1
   simp[oX,rK,yY,pi,jw,bs]
  |cm s=>
   show NM vd (jI d) (oX vd x ⟨2,s,⟨#[]⟩⟩ _)=_;rw[uS vd d]
   congr 1
   simp[oX,rK,yY,pi,jw,bs]
  |tx s=>
   show NM vd (jI d) (oX vd x ⟨3,s,⟨#[]⟩⟩ _)=_;rw[uS vd d]
   congr 1
   have:(A0 s).data.toList=nS false (bs s):=Y7 s;cases h:x.2<;>simp[oX,rK,yY,pi,bs,h,this]
  |uj s=>
   show NM vd (jI d) (oX vd x ⟨6,s,⟨#[]⟩⟩ _)=_;rw[uS vd d]
   congr 1
   cases h:vd s<;>simp[oX,rK,yY,pi,jw,bs,h]
  |enter s gx=>
   show NM vd ((gx.map λa=>(⟨5,a.1,a.2⟩:It))++jI d) (oX vd x ⟨4,s,⟨#[]⟩⟩ (nxA ((gx.map λa=>(⟨5,a.1,a.2⟩:It))++jI d)))=_;rw[Xm vd _ f];cases gx with
   |nil=>
    rw[gv rfl,uS vd d]
    congr 1
    have:nxA (List.map (λa:fY×fY=>(⟨5,a.1,a.2⟩:It)) []++jI d)=false:=f;rw[this];simp[oX,rK,yY,pi,U0,Dl,jw,bs,yX]
   |cons a gx=>
    rw[gH (by simp),uS vd d]
    congr 1
    have e2:oX vd x ⟨4,s,⟨#[]⟩⟩ (nxA (List.map (λa:fY×fY=>(⟨5,a.1,a.2⟩:It)) (a::gx)++jI d))=(x.1++[60]++bs s,yX s):=by
     unfold oX;rw[gH (by simp[nxA])];rfl
    rw[e2];simp[yY,pi,U0,jw,bs,yX]
def abU:(prog.info? 137).map (λi=>(i.zero,i.size,i.bytes))=some (some (.nilIface),1,16):=by kernel_rfl
theorem YT {l : List gG} {n : Nat} (d:i < j) (f:j<=n) (h:n<=l.length):
  ((l.take i++(l.take n).drop j++l.drop (i+(n - j))).take (n - (j - i)))=(l.take n).take i++(l.take n).drop j:=by
 have e:(l.take i++(l.take n).drop j).length=n - (j - i):=by simp;omega
 grind
theorem aek (g cap i j n:Nat) (f:jA) (w:gm) (q:w.heap[g]?=some (gz f 137)) (a5:n<=cap) (Z:f.size=cap) (hi:i < j) (hj:j<=n) (a4:n<=1048576)
  (h1:∀u∈f.toList.take n,u.oneCell'=true):
  Calls prog 377 #[oo g n cap,fV i,fV j] w λe w'=>e=ig (oo g (n - (j - i)) cap)/\
   ∃r,w'.heap[g]?=some (gz r 137)/\r.size=cap/\r.toList.take (n - (j - i))=(f.toList.take n).take i++(f.toList.take n).drop j/\Kept [g] w w':=by
 obtain⟨i0,V,a6,a0,a7⟩:=uH abU;obtain⟨d,m⟩:∃d,d=(f.toList.take n).drop j:=⟨_,rfl⟩;have s:d.length=n - j:=by rw[m];simp;omega
 have N:∀t u,d[t]?=some u->f[j+t]?=some u:=by
  intro t u H;rw[m,X9,FL]at H;split at H
  .grind
  .cases H
 obtain⟨A,hA,R⟩:∃A:Addr,(if cap=j then some (⟨g,0,none⟩:Addr)else some ⟨g,j,none⟩)=some A/\Hid (∀t u,d[t]?=some u->w.drew.cell? (A.add t)=some u):=by
  by_cases h:cap=j
  .refine⟨⟨g,0,none⟩,by simp[h],λt u H=>?_⟩;grind
  .refine⟨⟨g,j,none⟩,by simp[h],λt u H=>?_⟩;rw[show(⟨g,j,none⟩:Addr).add t=⟨g,j+t,none⟩from by unfold Addr.add;simp];exact(fN q _).trans (N t u H)
 have s1:Hid (d.length=(n - j)*1):=by rw[FM];exact s
 have s2:Hid (∀u∈d,u.oneCell'=true):=λu H=>h1 u (Is (m▸H));have s3:Hid (∀t,t < d.length->(w.drew.cell? ⟨g,0+i*1+t,none⟩).isSome=true/\w.drew.frozen? ⟨g,0+i*1+t,none⟩=false):=by
  intro t ht;rw[s]at ht;refine⟨?_,gh q _⟩;show(w.cell? _).isSome=true;rw[fN q,xP (by omega)];rfl
 obtain⟨D,y⟩:∃D,D=w.drew.setCells g (0+i*1) d:=⟨_,rfl⟩;have I:D.heap[g]?=some (gz (jo f (0+i*1) d) 137):=by rw[y];exact kC d w.drew g f _ _ _ q
 have U:Kept [g] w D:=by rw[y];exact Kept.setCells (.inl (by simp)) d _ (Kept.refl _ _).drew
 have a1:∀ty,(Builtin.clear_ #[133] ty #[.slice (some ⟨g,i+(n - j),none⟩) (n - (i+(n - j))) (cap - (i+(n - j)))]).run prog D= .ok (.tuple #[]) (D.setCells g (i+(n - j)) (List.replicate (n - (i+(n - j))) (.nilIface))):=
  λty=>Lib.run_clear_slice D _ _ ty _ underlying133 Tryz.zeroValue137 rfl rfl g (i+(n - j)) _ _ (by omega) (λt ht=>by rw[fN I,xP (by rw[js];omega)];rfl) (λt ht=>gh I _)
 have HB:=kC (List.replicate (n - (i+(n - j))) (Value.nilIface)) D g _ _ _ (i+(n - j)) I;have HK:=Kept.setCells (S:=[g]) (a:=w) (b:=g) (.inl (by simp)) (List.replicate (n - (i+(n - j))) (Value.nilIface)) (i+(n - j)) U;have X:(jo f (0+i*1) d).toList=f.toList.take (0+i*1)++d++f.toList.drop (0+i*1+d.length):=kE _ _ _ (by omega);have Y:=kE (List.replicate (n - (i+(n - j))) (Value.nilIface)) (jo f (0+i*1) d) (i+(n - j)) (by rw[js];grind);have HF:(jo (jo f (0+i*1) d) (i+(n - j)) (List.replicate (n - (i+(n - j))) (Value.nilIface))).toList.take (n - (j - i))=(f.toList.take n).take i++(f.toList.take n).drop j:=by
  rw[Y,wA,LQ (by simp[js];omega),X,s,m];rw[Om,T8 (by omega)];have:=YT (l:=f.toList) hi hj (by grind)
  simpa using this
 have HW:=fM y;have a2:i<=cap:=by omega
 have a3:j<=cap:=by omega
 clear y;go_enter func377,ntmps377;go_wp21
 go_region_law (refine step_append_room rfl (.tmp 22) (.tmp 25) 133 rfl 137 i0 1 underlying133 V a0 g 0 i cap (by simp[Act.eval,Act.put]) A (n - j) (cap - j) d (by simp[Act.eval,Act.put]) s1 R s2 (by omega) s3 ?_;rw[<-HW.out])
 go_wp2;go_ret;exact⟨by rw[show n - (j - i)=i+(n - j) by omega];rfl,_,HB,by rw[js,js];exact Z,HF,HK⟩
def Nd.iw:Nd->Nat
 | .el k=>k
 | .tx k=>k
 | .cm k=>k
 | .dt k=>k
def Nd.typ:Nd->TypeId
 | .el _=>135
 | .tx _=>278
 | .cm _=>233
 | .dt _=>237
def AK (w:gm) (x:Nd):Prop:=∃c,w.heap[x.iw]?=some (gz c x.typ)
def Nd.gR (j:Nat):Nd->Bool
 | .el k=>k==j
 |_=>false
variable {ns : List Nd}
def ndc:(prog.info? 65).map (λi=>i.comparable)=some true:=by kernel_rfl
def Ga {U : TypeId} (f:T≠U) (w:gm):(binOp .eql 137 (.iface T v) (.iface U u)).run prog w= .ok (.bool false) w:=by
 have h:∀d:Nat,(Op.equalIn (d+1) 137 (.iface T v) (.iface U u)).run prog w= .ok false w:=λd=>by simp[Op.equalIn,qq underlying137,f]
 simp only[binOp];simp[Op.equal,Op.maxDepth,h 9999]
def ahz {x : Nd} (n:AK w x) (m:AK w (.el j)):
  (binOp .eql 137 x.val (Nd.el j).val).run prog w= .ok (.bool (x.gR j)) w:=by
 obtain⟨i,f,d⟩:=Option.map_eq_some_iff.1 ndc;have⟨q,hq,hqs⟩:=Option.map_eq_some_iff.1 WV;cases x with
 |el k=>
  by_cases h:k=j
  .subst h;have e:(Nd.el k).gR k=true:=by simp[Nd.gR]
   rw[e];exact run_eql_iface_ptr_same (P:=prog) w (⟨k,0,none⟩:Addr) underlying137 underlying65 f d hq
  .have⟨ca,ha⟩:=n;have⟨cb,hb⟩:=m;have e:(Nd.el k).gR j=false:=by simp[Nd.gR,h]
   rw[e];exact run_eql_iface_ptr_other (P:=prog) w (a:=⟨k,0,none⟩) (b:=⟨j,0,none⟩) underlying137 underlying65 f d hq (by omega) (by simp[h]) ha hb
 |tx k=>exact Ga (by decide) w
 |cm k=>exact Ga (by decide) w
 |dt k=>exact Ga (by decide) w
def GI (x:Nd):∃T v,x.val= .iface T (.pointer v):=by cases x<;>exact⟨_,_,rfl⟩
def R5 (f j:Nat) (x:Nd) (w:gm) (n:w.cell? ⟨f,0,none⟩=some (gE j)) (m:AK w x) (h:AK w (.el j)):
  Calls prog 362 #[x.val,gE f] w λe w'=>e=ig (.bool (x.gR j))/\w'=w:=by
 have d:=ahz m h;have⟨T,p,hv⟩:=GI x;rw[hv]at d|-;unfold Nd.val at d;generalize x.gR j=r at d|-;go_enter func362,ntmps362;go_wp2;go_ret;simp
def qE (ns:List Nd) (p:Nd->Bool):Int:=if ns.findIdx p < ns.length then (ns.findIdx p:Int)else -1
theorem afj {p : Nd->Bool} (f:k < ns.length) (h:p ns[k]=true) (d:∀j,(hj:j < ns.length)->j < k->p ns[j]=false):qE ns p=k:=by
 grind[qE]
theorem afk {p : Nd->Bool} (d:∀j,(hj:j < ns.length)->p ns[j]=false):qE ns p= -1:=by
 grind[qE]
theorem aeF (kv:gG) (ns:List Nd) (base r j:Nat) (w:gm) (ho:w.ownsRow base 137 1 kv ns.length (ns.map Nd.val)) (hn:∀x∈ns,AK w x) (Z:AK w (.el j)) (Y:w.cell? ⟨r,0,none⟩=some (gE j)) (a0:ns.length<=1048576):
  Calls prog 361 #[kv,.func (.func 362) #[] #[gE r]] w λe w'=>e=ig (fV (qE ns (Nd.gR j)))/\w'=w:=by
 have R:=(λx hx=>R5 r j x w Y (hn x hx) Z);rcases ho.2 with⟨rfl,X⟩|⟨g,cap,s,rfl,_,n,a2,_,_,h⟩
 .have q:ns=[]:=QB X;subst q;go_enter func361,ntmps361;go_wp2;refine xO 1 ?_;rw[pj];go_wp2;go_ret;simp[qE]
 .have U:∀k,(y:k < ns.length)->w.cell? ⟨g,k,none⟩=some ns[k].val:=by
   intro k y;rw[fN n];have:(s.toList.take (ns.length*1))[k]?=some ns[k].val:=by rw[h];simp[y]
   rw[FL]at this;split at this
   .grind
   .omega
  go_enter func361,ntmps361;go_wp2
  go_loopw [8] (λi wr=>∃k:Nat,k<=ns.length/\i=fV k/\wr=w/\∀m,(D:m < ns.length)->m < k->(ns[m]).gR j=false) (λi _=>ns.length - (intOf i).toNat)
  case atStart=>grind
  case round=>
   obtain⟨k,y,rfl,rfl,N⟩:=hrel;by_cases f:k < ns.length
   .have V:=U k f;have d:=R ns[k] (uG f);have⟨T,p,hv⟩:=GI ns[k];rw[hv]at V d;cases hq:(ns[k]).gR j with
    |true=>
     rw[hq]at d;have H:=fM (afj f hq N);go_wp21;refine d.mono ?_;rintro e w' ⟨rfl,I⟩;subst I;go_wp2;go_ret;exact⟨by rw[H.out];rfl,rfl⟩
    |false=>
     rw[hq]at d;have HQ:=hq;go_wp21;refine d.mono ?_;rintro e w' ⟨rfl,I⟩;subst I;go_wp2;go_roundw
     case rel=>
      refine⟨k+1,by omega,by go_num,by simp,λm D a1=>?_⟩;grind
     case measure=>simp[intOf];omega
   .have H:=fM (afk (ns:=ns) (p:=Nd.gR j) (λm D=>N m D (by omega)));go_wp2;go_ret;exact⟨by rw[H.out];rfl,rfl⟩
theorem Kt (base k j:Nat) (name:fY) (av kv:gG) (je:iY) (ns:List Nd) (w:gm) (h:El base w k name av je kv ns) (y:∀x∈ns,AK w x) (r:AK w (.el j)):
  Calls prog 339 #[gE k,gE j] w λe w'=>e=ig (fV (qE ns (Nd.gR j)))/\Kept [] w w':=by
 have d:Kept [] w (w.alloc (gz #[gE j] 65)):=(Kept.refl _ _).alloc _;have I:=fP w (gz #[gE j] 65);have f:∀x,AK w x->AK (w.alloc (gz #[gE j] 65)) x:=λx ⟨c,n⟩=>⟨c,d.at n (by simp)⟩;have H:=aeF kv ns base w.heap.size j _ (d.ownsRow h.row (λ_ _=>by simp)) (λx D=>f x (y x D)) (f _ r) (by simp) h.le;have m:=fN h.iw 3;dsimp at m;have s:=iQ h.iw;obtain⟨ao,cap,rfl⟩:=gw h.row;generalize qE ns (Nd.gR j)=q at H|-;go_enter func339,ntmps339;go_wp21;refine H.mono ?_;rintro e w' ⟨rfl,rfl⟩;go_wp2;go_ret;simp_all
theorem KF (h:El base w k name av je kv ns) {m : Nat} (q:m < ns.length):∃g cap,kv=oo g ns.length cap/\w.cell? ⟨g,m,none⟩=some ns[m].val:=by
 rcases h.row.2 with⟨_,s⟩|⟨g,cap,n,rfl,_,f,r,_,_,d⟩
 .omega
 .refine⟨g,cap,rfl,?_⟩;rw[fN f];have:(n.toList.take (ns.length*1))[m]?=some ns[m].val:=by rw[d];simp[q]
  grind
theorem MK (base k m n:Nat) (name d s:fY) (av kv:gG) (je:iY) (ns:List Nd) (w:gm) (h:El base w k name av je kv ns) (Y:m < ns.length) (hx:ns[m]= .tx n) (Z:w.heap[n]?=some (gz #[gu d] 278)) (a5:d.size+s.size<=1048576):
  Calls prog 173 #[place k (m+1),gu s] w λe w'=>e=pL/\w'.heap[n]?=some (gz #[gu (d++s)] 278)/\Kept [n] w w':=by
 obtain⟨g,cap,rfl,c4⟩:=KF h Y;rw[hx]at c4;have a2:=iQ h.iw;have a7:=iQ Z;have a3:=h.le;obtain⟨w1,f⟩:∃w1,w1=w.alloc (gz #[gE k,fV ((m+1:Nat))] 229):=⟨_,rfl⟩;have q:Kept [] w w1:=by rw[f];exact(Kept.refl _ _).alloc _
 have R:w1.heap[w.heap.size]?=some (gz #[gE k,fV ((m+1:Nat))] 229):=by rw[f];exact fP w _
 have U:=h.kept q (by simp) (by simp);have r:=q.at Z (by simp);have D:=fN R 0;have H:=fN R 1;have I:=fN U.iw 3;dsimp at D H I;have cG:w1.cell? ⟨g,m,none⟩=some (Nd.tx n).val:=by
  have⟨g',cap',e,c⟩:=KF U Y;injection e with e1;injection e1 with e2;injection e2 with e3;rw[e3,c,hx]
 unfold Nd.val at cG;have N:=fN r 0;have fT:=gh r 0;dsimp at N;have a6:=XY (X:=275) underlying275;have y:=fM f;have a4:(m:Int) < ns.length:=by omega
 clear f;go_enter func173,ntmps173;go_wp21;rw[show((m+1:Nat):Int)=(m:Int)+1 by omega]at y;rw[<-y.out]
 go_quiet (fail)
 have a0:(w1.drewN nq).cell? ⟨n,0,none⟩=some (gu d):=N;have a1:(w1.drewN nq).frozen? ⟨n,0,none⟩=false:=fT;have V:=run_string_add_sum (P:=prog) (w1.drewN nq) d s (by omega);have HB:=fR (w:=w1.drewN nq) r 0 (gu (d++s));have HK:=((q.mono (S':=[n]) (by simp)).drewN nq).setCell (p:=⟨n,0,none⟩) (.inl (by simp)) (gu (d++s));go_wp2;refine ou (Iv rfl _ _ _) rfl ?_;grind
theorem PN (base k n:Nat) (name s:fY) (av kv:gG) (je:iY) (ns:List Nd) (w:gm) (h:El base w k name av je kv ns) (hn:n<=ns.length) (Q:gm->Prop) (f:∀w1,Kept [] w w1->Calls prog 166 #[place k n,(Nd.tx w1.heap.size).val] (w1.alloc (gz #[gu s] 278)) λe w'=>e=pL/\Q w') (hx:∀m,(R:m < ns.length)->n=m+1->∀t,ns[m]≠ .tx t):
  Calls prog 173 #[place k n,gu s] w λe w'=>e=pL/\Q w':=by
 have a2:=iQ h.iw;have a3:=h.le;obtain⟨w1,d⟩:∃w1,w1=w.alloc (gz #[gE k,fV n] 229):=⟨_,rfl⟩;have V:Kept [] w w1:=by rw[d];exact(Kept.refl _ _).alloc _
 have Z:w1.heap[w.heap.size]?=some (gz #[gE k,fV n] 229):=by rw[d];exact fP w _
 have h1:=h.kept V (by simp) (by simp);have I:=fN Z 0;have y:=fN Z 1;dsimp at I y;have r:=fM d;have D:w1.heap.size=w.heap.size+1:=by rw[d];simp
 by_cases h0:n=0
 .subst h0;have hP:=f w1 V;rw[D,d]at hP;have H:=(show Calls prog 166 #[.agg #[gE k,fV 0],.iface 275 (gE (w.heap.size+1))] ((w.alloc (gz #[gE k,fV 0] 229)).alloc (gz #[gu s] 278)) (λe w'=>e=pL/\Q w')from hP);clear d D;go_enter func173,ntmps173;go_wp21;refine H.mono ?_;rintro e w' ⟨rfl,HR⟩;go_wp2;go_end0;grind
 .obtain⟨m,rfl⟩:∃m,n=m+1:=⟨n - 1,by omega⟩;have R:m < ns.length:=by omega
  have a5:=hx m R rfl;have⟨g,cap,hkv,c4⟩:=KF h1 R;subst hkv;have N:=fN h1.iw 3;dsimp at N;have U:∀(xT:TypeId) (w:gm),(Instr.typeAssert ns[m].val xT 275 true).run prog w= .ok (.tuple #[.pointer none,.bool false]) w:=by
   intro xT w;cases hq:ns[m]with
   |tx t=>grind
   |el t=>exact GG (X:=275) underlying275 rfl (by decide) _ _ _
   |cm t=>exact GG (X:=275) underlying275 rfl (by decide) _ _ _
   |dt t=>exact GG (X:=275) underlying275 rfl (by decide) _ _ _
  have H:∀q,Calls prog 166 #[.agg #[gE k,fV ((m:Int)+1)],.iface 275 (gE w1.heap.size)] ((w1.drewN q).alloc (gz #[gu s] 278)) (λe w'=>e=pL/\Q w'):=
   λq=>f (w1.drewN q) (V.drewN q)
  have⟨xt,xp,hxv⟩:=GI ns[m];rw[hxv]at c4 U;have a4:(m:Int) < ns.length:=by omega
  have Y:w1.cell? ⟨w.heap.size,1,none⟩=some (fV ((m:Int)+1)):=y;have a0:w.heap.size < w1.heap.size:=by omega
  rw[show((m+1:Nat):Int)=(m:Int)+1 by omega]at r;have a1:=fM D;clear d D;go_enter func173,ntmps173;go_wp21;rw[<-r.out]
  go_quiet (fail)
  go_wp21;refine(H nq).mono ?_;rintro e w' ⟨rfl,HR⟩;go_wp2;go_end0;grind
def AK.kept {x : Nd} (h:AK w x) (d:Kept [] w w'):AK w' x:=by
 have⟨c,hc⟩:=h;exact⟨c,d.at hc (by simp)⟩
def El.Zj (h:El base w k name av je kv ns):AK w (.el k):=⟨_,h.iw⟩
def OE (w:gm) (o:Obj):∃W,W=w.alloc o/\Kept [] w W/\W.heap[w.heap.size]?=some o/\W.heap.size=w.heap.size+1:=⟨_,rfl,(Kept.refl _ _).alloc _,fP w _,by simp⟩
def abE (base j:Nat) (name:fY) (av kv:gG) (ns:List Nd) (w:gm) (h:El base w j name av none kv ns):
  Calls prog 312 #[gE j] w λe w'=>e=ig (.tuple #[.agg #[.pointer none,fV 0],.bool false])/\Kept [] w w':=by
 have m:w.cell? ⟨j,2,none⟩=some (.pointer none):=(fN h.iw 2).trans rfl;have f:=iQ h.iw;have d:=(Kept.refl [] w).alloc (gz #[.pointer none,fV 0] 229);go_enter func312,ntmps312;go_wp2;refine ou (v:= .tuple #[.agg #[.pointer none,fV 0],.bool false]) ?_ rfl ⟨rfl,d⟩;simp[results,results312,asAddr,Result.andThen,go_sem]
def Zb (base j p:Nat) (name D:fY) (av kv s y:gG) (f:iY) (ns d:List Nd) (w:gm) (h:El base w j name av (some p) kv ns) (hp:El base w p D s f y d) (hn:∀x∈d,AK w x):
  Calls prog 312 #[gE j] w λe w'=>e=ig (.tuple #[.agg #[gE p,fV (qE d (Nd.gR j))],.bool true])/\Kept [] w w':=by
 have⟨w1,hw1,HK1,HG1,z1⟩:=OE w (gz #[.pointer none,fV 0] 229);have c2:w1.cell? ⟨j,2,none⟩=some (gE p):=(fN (HK1.at h.iw (by simp)) 2).trans rfl;have a0:=iQ h.iw;have n:j≠w.heap.size:=by omega
 have X:=(λ(W:gm) (V:Kept [] w W)=>Kt base p j D s y f d W (hp.kept V (by simp) (λ_ _=>by simp)) (λx hx=>(hn x hx).kept V) (h.Zj.kept V));have Z:w.cell? ⟨j,2,none⟩=some (gE p):=(fN h.iw 2).trans rfl;have R:=fM hw1;have Y:=h.iw;clear hw1;generalize qE d (Nd.gR j)=q at X|-;go_enter func312,ntmps312;go_wp21;rw[<-R.out]
 go_region_held3 (λw'=>w'.cell? ⟨j,2,none⟩=some (gE p)) ((first|assumption|go_keep|exact(lf n).trans (by assumption)|exact(lf n).trans ((lf n).trans (by omega)))) ((go_at_call 339;refine(X _ HK1.drew).mono ?_;rintro e H ⟨rfl,m⟩;have U:Kept [] w H:=HK1.drew.trans m;have d2:H.cell? ⟨j,2,none⟩=some (gE p):=(fN (U.at Y (by simp)) 2).trans rfl;have r:H.heap[w.heap.size]?=some (gz #[.pointer none,fV 0] 229):=((Kept.refl [] w1).drew.trans m).at HG1 (by simp);have e0:H.cell? ⟨w.heap.size,0,none⟩=some (.pointer none):=(fN r 0).trans rfl;have e1:H.cell? ⟨w.heap.size,1,none⟩=some (fV 0):=(fN r 1).trans rfl;have y0:=gh r 0;have y1:=gh r 1;have I:=fM r;have N:=fM U;clear r U m))
 all_goals (try (go_wp21))
 have hb:=fR (fR I 0 (gE p)) 1 (fV q);have hc:=fN hb;refine ou (v:= .tuple #[.agg #[gE p,fV q],.bool true]) ?_ rfl ⟨rfl,(N.setCell (p:=⟨w.heap.size,0,none⟩) (.inr (gL _)) _).setCell (p:=⟨w.heap.size,1,none⟩) (.inr (gL _)) _⟩;simp[results,results312,asAddr,Result.andThen,go_sem,hc]
def Wh (base j:Nat) (name:fY) (av kv:gG) (ns:List Nd) (w:gm) (h:El base w j name av none kv ns):
  Calls prog 365 #[gE j] w λe w'=>e=pL/\w'=w:=by
 have d:w.cell? ⟨j,2,none⟩=some (.pointer none):=(fN h.iw 2).trans rfl;go_enter func365,ntmps365;go_wp2;go_end0;simp
theorem afx {f d : jA} (n:i < ns.length) (h:base<=g) (m:w'.heap[g]?=some (gz d 137)) (I:d.size=cap) (H:ns.length<=cap) (r:cap<=maxLen) (s:f.toList.take ns.length=ns.map Nd.val) (y:d.toList.take (ns.length - 1)=(f.toList.take ns.length).take i++(f.toList.take ns.length).drop (i+1)):
  w'.ownsRow base 137 1 (oo g (ns.length - 1) cap) (ns.eraseIdx i).length ((ns.eraseIdx i).map Nd.val):=by
 have q:(ns.eraseIdx i).length=ns.length - 1:=by rw[Qv n]
 have D:(ns.eraseIdx i).map Nd.val=(f.toList.take ns.length).take i++(f.toList.take ns.length).drop (i+1):=by
  rw[s,List.eraseIdx_eq_take_drop_succ,se,List.map_take,List.map_drop]
 refine⟨by simp,.inr ⟨g,cap,d,by rw[q],h,m,by omega,r,by omega,?_⟩⟩;grind
def WC (base p i g cap:Nat) (y:fY) (q:gG) (n:iY) (f:List Nd) (m:jA) (w:gm) (r s:Bool) (W:gm):Prop:=
 if s then (∃h,El base W p y q n h (f.eraseIdx i)/\h.ownBlock=some g)/\Kept [p,g] w W else if r then Kept [g] w W/\∃d,W.heap[g]?=some (gz d 137)/\d.size=cap/\d.toList.take (f.length - 1)=(m.toList.take f.length).take i++(m.toList.take f.length).drop (i+1)else Kept [] w W
def WC.any {p : Nat} {r : fY} {f : gG} {d : iY} {s : List Nd} {q : jA} {m n : Bool} (h:WC base p i g cap r f d s q w m n W):Kept [p,g] w W:=by
 unfold WC at h;split at h
 .exact h.2
 split at h
 .exact h.1.mono (by simp)
 .exact h.mono (by simp)
theorem Ip (base j p i:Nat) (name U:fY) (av kv I D:gG) (s:iY) (ns d:List Nd) (w:gm) (h:El base w j name av (some p) kv ns) (R:El base w p U I s D d) (hn:∀x∈d,AK w x) (ab:j≠p) (a7:∀g,kv.ownBlock=some g->D.ownBlock≠some g) (hi:i < d.length) (V:qE d (Nd.gR j)=(i:Int)):
  Calls prog 365 #[gE j] w λe w'=>e=pL/\(∃r,El base w' p U I s r (d.eraseIdx i)/\r.ownBlock=D.ownBlock)/\El base w' j name av none kv ns/\Kept (j::p::D.ownBlock.toList) w w':=by
 obtain⟨g,cap,f,rfl,a8,n,y,ac,ad,a3⟩:∃g cap f,D=oo g d.length cap/\base<=g/\w.heap[g]?=some (gz f 137)/\d.length<=cap/\cap<=maxLen/\f.size=cap/\f.toList.take d.length=d.map Nd.val:=by
  rcases R.row.2 with⟨_,e0⟩|⟨g,cap,f,e,hb,n,y,hm,hs,ht⟩
  .omega
  .exact⟨g,cap,f,e,hb,n,y,hm,by omega,by grind⟩
 have CI:=fM (Kt base p j U I _ s d w R hn h.Zj);rw[V]at CI;have aa:g≠p:=by have:=R.nI R.iw (by decide);simpa [Value.ownBlock]using this
 have a9:g≠j:=by have:=R.nI h.iw (by decide);simpa [Value.ownBlock]using this
 have c2:w.cell? ⟨j,2,none⟩=some (gE p):=(fN h.iw 2).trans rfl;have CD:Hid (∀(W:gm),Kept [] w W->Calls prog 377 #[oo g d.length cap,fV i,fV ((i:Int)+1)] W λe w'=>e=ig (oo g (d.length - 1) cap)/\
   ∃m,w'.heap[g]?=some (gz m 137)/\m.size=cap/\m.toList.take (d.length - 1)=(f.toList.take d.length).take i++(f.toList.take d.length).drop (i+1)/\Kept [g] W w'):=fM (λW hk=>by
  rw[show((i:Int)+1)=((i+1:Nat):Int) by omega];have aq:=aek g cap i (i+1) d.length f W (hk.at n (by simp)) y ad (by omega) (by omega) R.le (by rw[a3];exact Xw d)
  rwa [show i+1 - i=1 by omega]at aq)
 have aw:(0:Int)<=(i:Int):=by omega
 have au:(i:Int) < 1048576:=by have:=R.le;omega
 have H:=fM h;have Z:=fM R;have ae:=fM a7;have an:=fM y;have al:=fM ac;have ap:=fM a3;have HI:=fM hi;have af:=fM a8;have Y:=fM ab;have ah:=fM aa;have X:=fM a9;clear h R hn a7 y ac a3 hi a8 ab aa a9 n ad V;go_enter func365,ntmps365;go_wp21;refine CI.out.mono ?_;rintro e w1 ⟨rfl,N⟩;have aj:=fM N;have d2:w1.cell? ⟨j,2,none⟩=some (gE p):=(fN (N.at H.out.iw (by simp)) 2).trans rfl;have d3:w1.cell? ⟨p,3,none⟩=some (oo g d.length cap):=(fN (N.at Z.out.iw (by simp)) 3).trans rfl;clear N c2;go_wp21;refine vR (by rfl) ?_;refine qp (λ(u:Unit) z=>⟨#[gE j,undef,fV i,gE j,gE j,jG j 2,gE p,.bool true,gE j,gE j,jG j 2,gE p,gE j,fV i,cd z 0 (gE j),cd z 1 (gE j),cd z 2 (jG j 2),cd z 3 (gE p),cd z 4 (gE j),cd z 5 (gE j),cd z 6 (jG j 2),cd z 7 (gE p),cd z 8 (gE p),cd z 9 (jG p 3),cd z 10 (oo g d.length cap),cd z 11 (fV i),cd z 12 (fV i),cd z 13 (fV ((i:Int)+1)),cd z 14 (oo g (d.length - 1) cap),cd z 15 (gE p),cd z 16 (jG p 3),undef,undef,undef],[]⟩) (λu z W=>WC base p i g cap U I s d f w (dn z 14) (dn z 17) W) 18 [[],[0],[1],[2],[],[4],[5],[6],[7],[8],[9],[],[],[12],[4,5,6,7,8,9,10,11,12,13],[3],[15],[0,1,2,3,4,5,6,7,8,9,10,11,12,13,14,15,16]] (()) rfl rfl (aj.out.drew) ?_ ?_
 .repeat' first|exact nu|refine nr ?_ ?_
  all_goals
   rintro u z W hI hc hn;simp[Dh]at hc;refine jY rfl ?_;intro K' a0;simp only[lC,hc];have c0:W.cell? ⟨j,2,none⟩=some (gE p):=(fN (hI.any.at H.out.iw (by have:=X.out;have:=Y.out;simp;omega)) 2).trans rfl;have q:=hI
   try simp only[hc]at q
   try rw[hn 17 (by decide)]at q
   try rw[hn 14 (by decide)]at q
   try (have q:Kept [] w W:=q;have c3:W.cell? ⟨p,3,none⟩=some (oo g d.length cap):=(fN (q.at Z.out.iw (by simp)) 3).trans rfl)
   go_simp
   try rw[show IntKind.i64.wrap ((i:Int)+1)=(i:Int)+1 by rw[IntKind.wrap_i64];omega]
   first
   |refine a0 _ _ ⟨u,?_,(by rw[pr (by decide),pr (by decide)];exact hI)⟩
   |refine(CD.out W q).mono ?_;rintro e w2 ⟨rfl,m,a1,a4,a2,ar⟩;refine a0 _ _ ⟨u,?_,(by rw[sM,pr (by decide),hn 17 (by decide)];exact⟨(Kept.mono q (by simp)).trans ar,m,a1,a4,a2⟩)⟩
   |have⟨q,m,a1,a4,a2⟩:=q;have g2:=q.at Z.out.iw (by have:=ah.out;simp;omega);have c3:W.cell? ⟨p,3,none⟩=some (oo g d.length cap):=(fN g2 3).trans rfl;have y3:=gh g2 3;go_simp;refine a0 _ _ ⟨u,?_,(by rw[sM];exact⟨⟨_,Z.out.XR (g2.trans Z.out.iw.symm) (afx HI.out af.out a1 a4 an.out al.out ap.out a2) (by rw[Qv HI.out];have:=Z.out.le;omega),rfl⟩,(Kept.mono q (by simp)).setCell (p:=⟨p,3,none⟩) (.inl (by simp)) _⟩)⟩
   simp[pn,wx,lC,hc]
 .rintro u W hI;rw[yt,yt]at hI;simp only[vW];have⟨⟨r,hE,ho⟩,hk⟩:=hI;have J:=H.out.kept hk (by have:=X.out;have:=Y.out;simp;omega) (λx hx=>by
   have h1:=ae.out x hx;have h2:=H.out.nI Z.out.iw (by decide);rw[hx]at h2;simp[Value.ownBlock]at h1 h2;simp;omega)
  have ag:=fM hE;have a5:=fM ho;have ak:=fM hk;have ai:=fM (J.ac0 none);have j2:W.cell? ⟨j,2,none⟩=some (gE p):=(fN J.iw 2).trans rfl;have z2:=gh J.iw 2;clear hE ho hk J;rename_i KK a6;refine a6 _ _ ?_;clear a6 KK;go_wp2;go_end0;refine⟨rfl,⟨r,ag.out.kept ((Kept.refl [j] W).setCell (p:=⟨j,2,none⟩) (.inl (by simp)) _) (by have:=Y.out;simp;omega) (λx hx=>?_),a5.out⟩,ai.out,?_⟩
  .rw[a5.out]at hx;have e:=jv hx;have:=X.out;simp;omega
  .refine(ak.out.mono (S':=j::p::[g]) ?_).setCell (p:=⟨j,2,none⟩) (.inl (by simp)) _;simp
structure yp where
 name:fY
 gO:la
 je:iY
 kids:List Nd
inductive AJ
 |el (e:yp)
 |tx (s:fY)
 |cm (s:fY)
 |dt (s:fY)
structure Ab where
 nodes:List AJ
 gq:kG
 act:kG
 head:iY
 form:iY
 mode:Nat
 kept:Nat
 waiting:List (Nat×Nat×fY)
 iL:Bool
 jJ:Bool
 gI:Nat
 behind:Bool
 nT:fY
 iU:Bool
 fresh:Bool
 qu:Nat
 rH:Nat
 pP:Nat
inductive pM (α:Type)
 |ok (a:α) (σ:Ab)
 |stop (e:Nat) (gI:Nat)
 |stuck
def M (α:Type):=Ab->pM α
namespace M
def pure {α:Type} (a:α):M α:=λσ=> .ok a σ
def bind {α d:Type} (m:M α) (f:α->M d):M d:=λσ=>match m σ with
 | .ok a σ'=>f a σ'
 | .stop e p=> .stop e p
 | .stuck=> .stuck
instance :Monad M where
 pure:=M.pure
 bind:=M.bind
end M
def M.gn {α d:Type} (m:M α) (f:α->M d) (σ:Ab):(m>>=f) σ=match m σ with
 | .ok a σ'=>f a σ'
 | .stop e p=> .stop e p
 | .stuck=> .stuck:=rfl
def stuck {α:Type}:M α:=λ_=> .stuck
def wU (f:Ab->Ab):M Unit:=λσ=> .ok () (f σ)
def Ab.gV (σ:Ab) (i:Nat):Option yp:=match σ.nodes[i]? with
 |some (.el e)=>some e
 |_=>none
def Ab.gR (σ:Ab) (x:iY):Bool:=match x with
 |none=>true
 |some i=>(σ.gV i).isSome
def Ab.mW (σ:Ab) (x:iY):Bool:=match x with
 |none=>false
 |some i=>(σ.gV i).isSome
def Ab.wO {σ:Ab} (h:σ.mW x=true):σ.gR x=true:=by
 cases x with
 |none=>rfl
 |some i=>exact h
def Ab.jk (σ:Ab):Nd->Bool
 | .el i=>(σ.gV i).isSome
 | .tx i=>match σ.nodes[i]? with|some (.tx _)=>true|_=>false
 | .cm i=>match σ.nodes[i]? with|some (.cm _)=>true|_=>false
 | .dt i=>match σ.nodes[i]? with|some (.dt _)=>true|_=>false
def Ab.gS (σ:Ab) (i:Nat) (e:yp):Ab:={σ with nodes:=σ.nodes.set i (.el e)}
def Ab.add (σ:Ab) (n:AJ):Ab:={σ with nodes:=σ.nodes++[n]}
def Ab.pN (σ:Ab) (n:AJ) (d:Bool):Ab:={σ with nodes:=σ.nodes++[n],fresh:=d}
variable {σ : Ab}
def agN:fY:=fO
def agM:fY:=gr
def nG (s:fY):Bool:=kJ s agN||kJ s agM
structure Wf (σ:Ab):Prop where
 gq:∀x∈σ.gq,σ.mW x=true
 act:∀x∈σ.act,σ.gR x=true
 head:σ.gR σ.head=true
 form:σ.gR σ.form=true
 je:∀i e,σ.gV i=some e->σ.gR e.je=true
 kids:∀i e,σ.gV i=some e->∀k∈e.kids,σ.jk k=true
 ye:(σ.gV 0).isSome=true
theorem Ab.gW {e : yp} (h:σ.gV i=some e):i < σ.nodes.length:=by
 unfold Ab.gV at h;grind
theorem Ab.jn {e : yp} (h:σ.gV i=some e):σ.nodes[i]?=some (.el e):=by
 unfold Ab.gV at h;grind
theorem Ab.UL {e : yp} (h:σ.nodes[i]?=some (.el e)):σ.gV i=some e:=by
 grind[Ab.gV]
def words (s:fY):List fY:=(Lib.fields s.data.toList).map λl=>⟨l.toArray⟩
def zR (L:List (fY×gG)) (ks:List fY) (v:gG):List (fY×gG):=ks.foldl (λL k=>DG L k v) L
def SO (L:List (fY×gG)) (ks:List fY) (v:gG) (n:Nat) (d:n < ks.length):zR L (ks.take (n+1)) v=DG (zR L (ks.take n) v) ks[n] v:=by
 unfold zR;rw[adu d,wj];rfl
abbrev sj (w:gm):Prop:=Lib.TabIs prog w "strings.asciiSpace" .u8 Lib.asciiSpaceTab
def qx (s:fY):Bool:=decide (s.size < 4096)&&s.data.toList.all (λb=>decide (b.toNat < 128))&&decide ((words s).length<=4096)
def Nv (s:fY) (w:gm) (d:qx s=true) (m:sj w):
  Calls prog 87 #[gu s] w λe w'=>e=ig (oo w.heap.size (words s).length (words s).length)/\w'=w.alloc (gz ((words s).map Value.string).toArray 9):=by
 unfold qx at d;simp only[pW,BC,LV]at d;have h:=Tryz.strings_Fields s w (by omega) (λj b f=>d.1.2 b (tR f)) m;refine h.mono ?_;rintro e w' ⟨rfl,rfl⟩;have e1:(words s).length=(Lib.fields s.data.toList).length:=by simp[words]
 refine⟨by rw[e1],?_⟩
 congr 2
 simp[words]
theorem ajn (b:Nat) (s:fY) (v:gG) (L:List (fY×gG)) (w:gm) (y:qx s=true) (Y:sj w) (X:sX w b L):
  Calls prog 93 #[.map (some b),gu s,v] w λe w'=>e=ig (.map (some b))/\sX w' b (zR L (words s) v)/\Kept [b] w w':=by
 have q:(words s).length<=4096:=by
  unfold qx at y;simp only[pW,BC]at y;exact y.2
 have R:=Nv s w y Y;have V:=X;clear y Y X;generalize words s=d at R q|-;go_enter func93,ntmps93;go_wp21;refine R.mono ?_;rintro e w1 ⟨rfl,m⟩;have HG:w1.heap[w.heap.size]?=some (gz (d.map Value.string).toArray 9):=by rw[m];exact fP w _
 have U:Kept [] w w1:=by rw[m];exact(Kept.refl _ _).alloc _
 have I:=V.kept U (by simp);have Z:b≠w.heap.size:=by have:=V.lt;omega
 clear m;go_wp2
 go_loopw [12] (λi wr=>∃k:Nat,k<=d.length/\i=fV k/\sX wr b (zR L (d.take k) v)/\Kept [b] w wr/\wr.heap[w.heap.size]?=some (gz (d.map Value.string).toArray 9)) (λi _=>d.length - (intOf i).toNat)
 case atStart=>exact⟨0,iM _,rfl,I,U.mono (by simp),HG⟩
 case round=>
  obtain⟨k,hk,rfl,h,n,f⟩:=hrel;by_cases r:k < d.length
  .have c1:wr.cell? ⟨w.heap.size,k,none⟩=some (gu d[k]):=by rw[fN f];simp[r]
   have⟨w2,r2,HM2,k2,z2⟩:=Tp (T:=165) (E:=163) (by simp) h d[k] v;have H:=n.trans k2;have D:=k2.at f (by grind);have HS:=fM (SO L d v k r);clear h n f k2 z2;go_wp2;go_roundw
   case rel=>exact⟨k+1,by omega,by go_num,by rw[HS.out];exact HM2,H,D⟩
   case measure=>simp[intOf];omega
  .have N:k=d.length:=by omega
   have a0:=(show sX wr b (zR L d v) by grind);clear h f N;go_wp2;go_ret;simp_all
def AX (L:List (fY×Nat)):List (fY×gG):=L.map λp=>(p.1,fV p.2)
def wL:List (fY×Nat)->fY->Nat
 |[],_=>0
 |p::L,k=>if kJ k p.1 then p.2 else wL L k
def SS:List (fY×Nat)->fY->Nat->List (fY×Nat)
 |[],k,v=>[(k,v)]
 |p::L,k,v=>if kJ k p.1 then (k,v)::L else p::SS L k v
def Kk:∀(L:List (fY×Nat)) (k:fY),(AD (AX L) k).getD (fV 0)=fV (wL L k)
 |[],_=>rfl
 |p::L,k=>by
  show(if kJ k p.1 then some (Value.int .i64 (p.2:Int))else AD (AX L) k).getD _=_;unfold wL;split
  .rfl
  .exact Kk L k
def SU:∀(L:List (fY×Nat)) (k:fY) (v:Nat),DG (AX L) k (fV v)=AX (SS L k v)
 |[],_,_=>rfl
 |p::L,k,v=>by
  show(if kJ k p.1 then (k,Value.int .i64 (v:Int))::AX L else (p.1,Value.int .i64 (p.2:Int))::DG (AX L) k _)=_;unfold SS;split
  .rfl
  .rw[SU L k v];rfl
theorem NA:∀(L:List (fY×Nat)) (k:fY) (v:Nat) (s:fY),wL (SS L k v) s=if kJ s k then v else wL L s
 |[],k,v,s=>rfl
 |p::L,k,v,s=>by
  unfold SS;by_cases d:kJ k p.1=true
  .grind[wL,kJ,SS]
  .rw[gH d];unfold wL;rw[NA L k v s];grind[kJ]
def tW (L:List (fY×Nat)) (c:Nat) (ks:List fY):List (fY×Nat):=ks.foldl (λL k=>SS L k (wL L k|||c)) L
def Yx (L:List (fY×Nat)) (ks:List fY) (c n:Nat) (d:n < ks.length):tW L c (ks.take (n+1))=SS (tW L c (ks.take n)) ks[n] (wL (tW L c (ks.take n)) ks[n]|||c):=by
 unfold tW;rw[adu d,wj];rfl
def aj4:∀a c:Fin 16,a.1|||c.1 < 16:=by decide
theorem tZ {c : Nat} (d:c < 16) (ks:List fY):∀(L:List (fY×Nat)),(∀s,wL L s < 16)->∀s,wL (tW L c ks) s < 16:=by
 induction ks with
 |nil=>simp[tW]
 |cons k ks ih=>
  intro L h;refine ih _ λs=>?_;rw[NA];split
  .exact aj4 ⟨_,h k⟩ ⟨c,d⟩
  grind
def ah9:∀a c:Fin 16,IntKind.i64.wrap (((BitVec.ofInt 64 (a.1:Int))|||(BitVec.ofInt 64 (c.1:Int))).toNat:Int)=((a.1|||c.1:Nat):Int):=by decide
def ad2:∀a c:Fin 16,IntKind.i64.wrap (((BitVec.ofInt 64 (a.1:Int))&&& (BitVec.ofInt 64 (c.1:Int))).toNat:Int)=((a.1&&& c.1:Nat):Int):=by decide
def ad9 (a c:Nat) (d:a < 16) (f:c < 16):bits .or .i64 (a:Int) (c:Int)=((a|||c:Nat):Int):=ah9 ⟨a,d⟩ ⟨c,f⟩
def aaS (a c:Nat) (d:a < 16) (f:c < 16):bits .and .i64 (a:Int) (c:Int)=((a&&& c:Nat):Int):=ad2 ⟨a,d⟩ ⟨c,f⟩
theorem aha (b:Nat) (s:fY) (c:Nat) (L:List (fY×Nat)) (w:gm) (U:qx s=true) (ht:sj w) (hm:sX w b (AX L)) (hc:c < 16) (hL:∀s,wL L s < 16):
  Calls prog 53 #[.agg #[.map (some b)],fV c,gu s] w λe w'=>e=pL/\sX w' b (AX (tW L c (words s)))/\Kept [b] w w':=by
 have I:(words s).length<=4096:=by
  unfold qx at U;simp only[pW,BC]at U;exact U.2
 have X:Kept [] w (w.alloc (gz #[.map (some b)] 87)):=(Kept.refl _ _).alloc _;have g0:=fP w (gz #[.map (some b)] 87);have HF:=Nv s (w.alloc (gz #[.map (some b)] 87)) U (Lib.tabIs_alloc ht _);have HM:=hm.kept X (by simp);have a3:=hm.lt;have HL:=hL;clear U ht hm hL;generalize words s=d at HF I|-;obtain⟨w0,D⟩:∃w0,w0=w.alloc (gz #[.map (some b)] 87):=⟨_,rfl⟩;go_enter func53,ntmps53;go_wp21;refine HF.mono ?_;rintro e w1 ⟨rfl,n⟩;rw[<-D]at n g0 X HM;have a1:w0.heap.size=w.heap.size+1:=by rw[D];simp
 have HG:w1.heap[w.heap.size+1]?=some (gz (d.map Value.string).toArray 9):=by rw[n,<-a1];exact fP w0 _
 have Y:Kept [] w0 w1:=by rw[n];exact(Kept.refl _ _).alloc _
 have Z:=Y.at g0 (by simp);have HK:=X.trans Y;have a0:=HM.kept Y (by simp);clear n Y X g0;go_wp2
 go_loopw [11] (λi wr=>∃k:Nat,k<=d.length/\i=fV k/\sX wr b (AX (tW L c (d.take k)))/\Kept [b] w wr/\wr.heap[w.heap.size+1]?=some (gz (d.map Value.string).toArray 9)/\wr.heap[w.heap.size]?=some (gz #[.map (some b)] 87)) (λi _=>d.length - (intOf i).toNat)
 case atStart=>exact⟨0,iM _,rfl,a0,HK.mono (by simp),HG,Z⟩
 case round=>
  obtain⟨k,hk,rfl,m,y,h,f⟩:=hrel;by_cases R:k < d.length
  .have c1:wr.cell? ⟨w.heap.size+1,k,none⟩=some (gu d[k]):=by rw[fN h];simp[R]
   have c2:=fN f 0;dsimp at c2;have r:=tZ hc (d.take k) L HL d[k];have N:=Gy (T:=85) (E:=90) (z:=fV 0) (by simp) (by simp) m d[k];rw[Kk]at N;have H:=ad9 _ c r hc;have⟨w2,r2,HM2,k2,z2⟩:=Tp (T:=85) (E:=90) (by simp) m d[k] (fV ((wL (tW L c (d.take k)) d[k]|||c:Nat):Int));rw[SU,<-Yx L d c k R]at HM2;have a6:=y.trans k2;have a5:=k2.at h (by grind);have a4:=k2.at f (by grind);obtain⟨q,hq⟩:∃q,q=wL (tW L c (d.take k)) d[k]:=⟨_,rfl⟩;rw[<-hq]at N H r2;obtain⟨q2,V⟩:∃q2:Nat,q2=q|||c:=⟨_,rfl⟩;rw[<-V]at H r2;clear m y h f k2 z2 hq V r;go_wp2;go_roundw
   case rel=>grind
   case measure=>simp[intOf];omega
  .have a2:k=d.length:=by omega
   have a7:=(show sX wr b (AX (tW L c d)) by grind);clear m h a2 f;go_wp2;go_end0;grind
def TZ:List fY:=[jS,rA,pK,jc,iS,ic]
def FI:List fY:=[fO,gJ,jp,iK,iS,gr,nf,jR,mG,mH,pc,ry,kV,lV,lW,ng,iH,gU,jc,jS,rA,pK,fQ,gp,fS,ic,fW,fZ,fX,gX,il,im,gP,iW,jC]
def LK:List fY:=[lV,lW,kV,gF,fU,nf]
def X3:List fY:=[fO,fQ,il,im,gp,gP]
def qM:List (fY×Nat):=tW (tW (tW (tW [] 1 TZ) 2 FI) 4 LK) 8 X3
theorem sj.kept (h:sj w) (n:Kept S w w') (m:1∉S):sj w':=by
 unfold sj Lib.TabIs World.var? at *;have e:prog.globalNamed "strings.asciiSpace"=some 1:=rfl;simp only[e,Option.bind_some]at h|-;have d:1 < w.heap.size:=by
  rcases pJ 1 w.heap.size with f|f
  .exact f
  .grind
 rw[n.block _ d m];exact h
def I5 (b:Nat) (s:fY) (c:Nat) (L:List (fY×Nat)) (ks:List fY) (w:gm) (n:qx s=true) (d:words s=ks) (q:sj w) (m:sX w b (AX L)) (h:c < 16) (f:∀s,wL L s < 16):
  Calls prog 53 #[.agg #[.map (some b)],fV c,gu s] w λe w'=>e=pL/\sX w' b (AX (tW L c ks))/\Kept [b] w w':=by
 rw[<-d];exact aha b s c L w n q m h f
def Sx:∀s,wL [] s < 16:=λ_=>Nat.zero_lt_succ 15
theorem CG (w:gm) (ht:sj w):
  Calls prog 31 #[] w λe w'=>∃bm,e=ig (.agg #[.map (some bm)])/\sX w' bm (AX qM)/\Kept [] w w'/\w.heap.size<=bm:=by
 have ad:=@run_makeMap prog;obtain⟨W,f⟩:∃W,W=((w.alloc (gz #[.map none] 87)).alloc (.map #[] 0)).alloc (gz #[.map (some (w.heap.size+1))] 87):=⟨_,rfl⟩;have kW:Kept [] w W:=by rw[f];exact(((Kept.refl _ _).alloc _).alloc _).alloc _
 have H0:W.heap[w.heap.size]?=some (gz #[.map none] 87):=by
  rw[f,Below.heap_alloc _ _ _ (by simp;omega),Below.heap_alloc _ _ _ (by simp)];exact fP w _
 have g1:W.heap[w.heap.size+1]?=some (.map #[] 0):=by
  rw[f,Below.heap_alloc _ _ _ (by simp)];have:=fP (w.alloc (gz #[.map none] 87)) (.map #[] 0)
  rwa [xW]at this
 have H2:W.heap[w.heap.size+1+1]?=some (gz #[.map (some (w.heap.size+1))] 87):=by
  rw[f];have:=fP ((w.alloc (gz #[.map none] 87)).alloc (.map #[] 0)) (gz #[.map (some (w.heap.size+1))] 87)
  rwa [xW,xW]at this
 have HM:sX W (w.heap.size+1) (AX []):=⟨#[],0,g1,rfl⟩;have H:1∉[w.heap.size+1]:=by
  have ac:1 < w.heap.size:=by
   have h:=ht;unfold sj Lib.TabIs World.var? at h;have e:prog.globalNamed "strings.asciiSpace"=some 1:=rfl;simp only[e,Option.bind_some]at h;rcases pJ 1 w.heap.size with h'|h'
   .exact h'
   .grind
  intro D;have:=List.mem_singleton.1 D;omega
 have HT:=ht.kept kW (by simp);have HK:=kW.mono (S':=[w.heap.size+1]) (by simp);have HW:=fM f;clear f;go_enter func31,ntmps31;go_wp21;rw[<-HW.out];refine(I5 (w.heap.size+1) _ 1 [] TZ W (by rfl) (by rfl) HT HM (by decide) Sx).mono ?_;rintro e w1 ⟨rfl,a5,I⟩;have r:=HT.kept I H;have a0:=HK.trans I;have V:=I.at H0 (by simp);have m:=fM (I.at H2 (by simp));have c1:=fN m.out 0;dsimp at c1;go_wp21;refine(I5 (w.heap.size+1) _ 2 (tW [] 1 TZ) FI w1 rfl rfl r a5 (by decide) (tZ (by decide) _ _ Sx)).mono ?_;rintro e w2 ⟨rfl,a6,N⟩;have s:=r.kept N H;have a1:=a0.trans N;have X:=N.at V (by simp);have n:=fM (N.at m (by simp));have c2:=fN n.out 0;dsimp at c2;go_wp21;refine(I5 (w.heap.size+1) _ 4 (tW (tW [] 1 TZ) 2 FI) LK w2 (by rfl) (by rfl) s a6 (by decide) (tZ (by decide) _ _ (tZ (by decide) _ _ Sx))).mono ?_;rintro e w3 ⟨rfl,a7,R⟩;have y:=s.kept R H;have a2:=a1.trans R;have Y:=R.at X (by simp);have q:=fM (R.at n (by simp));have c3:=fN q.out 0;dsimp at c3;go_wp21;refine(I5 (w.heap.size+1) _ 8 (tW (tW (tW [] 1 TZ) 2 FI) 4 LK) X3 w3 (by rfl) (by rfl) y a7 (by decide) (tZ (by decide) _ _ (tZ (by decide) _ _ (tZ (by decide) _ _ Sx)))).mono ?_;rintro e w4 ⟨rfl,a8,U⟩;have ab:=y.kept U H;have a3:=a2.trans U;have d:=fM (U.at Y (by simp));have Z:=fM (U.at q (by simp));have c4:=fN Z.out 0;have f4:=gh d 0;have aa:=fN d.out 0;dsimp at c4 aa;have a4:=(a3.mono (S':=[]) (λk hk hl=>by grind)).setCell (p:=⟨w.heap.size,0,none⟩) (.inr (gL _)) (.map (some (w.heap.size+1)));have a9:=a8.keeps (w':=w4.setCell ⟨w.heap.size,0,none⟩ (.map (some (w.heap.size+1)))) (Below.heap_setCell w4 ⟨w.heap.size,0,none⟩ _ _ (by simp));have c5:=fN (fR d 0 (.map (some (w.heap.size+1)))) 0;go_wp2;refine ou (v:= .agg #[.map (some (w.heap.size+1))]) ?_ rfl ⟨w.heap.size+1,rfl,a9,a4,by omega⟩;simp[results,f31,go_sem,c5]
def Xi (L:List (fY×Nat)) (c:Nat) (s:fY):Bool:=decide (wL L s&&& c≠0)
def jU:fY->Bool:=Xi qM 1
def ly:fY->Bool:=Xi qM 2
def vM:fY->Bool:=Xi qM 4
def iJ:fY->Bool:=Xi qM 8
def WU:∀s,wL qM s < 16:=tZ (by decide) _ _ (tZ (by decide) _ _ (tZ (by decide) _ _ (tZ (by decide) _ _ Sx)))
theorem ad4 (m n bm c:Nat) (L:List (fY×Nat)) (w:gm) (D:w.heap[m]?=some (gz #[.map (some bm)] 87)) (N:w.heap[n]?=some (gz #[fV c] 90)) (H:sX w bm (AX L)) (Z:c < 16) (R:∀s,wL L s < 16):
  oB [m,n,bm] (.func (.func 54) #[] #[gE m,gE n]) (Xi L c) w:=by
 refine⟨⟨_,_,rfl,enters_of func54 (by rfl) rfl,λW r s=>?_⟩,λe U=>?_⟩
 .have X:=fN (oK r (by simp) D) 0;have Y:=fN (oK r (by simp) N) 0;dsimp at X Y;have f:=Gy (T:=85) (E:=90) (z:=fV 0) (by simp) (by simp) (H.keeps (r bm (by simp))) s;rw[Kk]at f;have d:=aaS _ c (R s) Z;have V:Xi L c s=decide (wL L s&&& c≠0):=rfl;rw[V];generalize wL L s=q at f d|-;obtain⟨y,h⟩:∃y:Nat,y=q&&& c:=⟨_,rfl⟩;rw[<-h]at d|-;clear D N H r R h V;show Calls prog 54 #[gu s,gE m,gE n] W _;by_cases I:y=0
  .subst I;go_enter func54,ntmps54;go_wp2;go_ret;simp
  .have D:¬((y:Int)=0):=by omega
   rw[vQ I];go_enter func54,ntmps54;go_wp2;go_ret;simp_all
 .simp at U;rcases U with rfl|rfl|rfl
  .grind
  .grind
  .exact H.lt
def aeZ (bB:Nat) (d:Int) (w:gm):
  Calls prog 97 #[gE bB,fV d] w λe w'=>e=ig (.func (.func 171) #[] #[gE w.heap.size,gE (w.heap.size+1)])/\w'=((w.alloc (gz #[gE bB] 116)).alloc (gz #[fV d] 172)):=by
 go_enter func97,ntmps97;go_wp2;go_ret;simp
def Pr (bB:Nat) (f:Fn) (d h:jA) (w:gm):
  Calls prog 89 #[gE bB,.func f d h] w λe w'=>e=ig (.func (.func 165) #[] #[gE w.heap.size])/\w'=(w.alloc (gz #[.func f d h] 206)):=by
 go_enter func89,ntmps89;go_wp2;go_ret;simp
def Ps (bB:Nat) (f:Fn) (d h:jA) (w:gm):
  Calls prog 121 #[gE bB,.func f d h] w λe w'=>e=ig (.func (.func 218) #[] #[gE (w.heap.size+1),gE w.heap.size])/\w'=((w.alloc (gz #[gE bB] 116)).alloc (gz #[.func f d h] 62)):=by
 go_enter func121,ntmps121;go_wp2;go_ret;simp
def ae0 (f:Fn) (d h:jA) (w:gm):
  Calls prog 125 #[.func f d h] w λe w'=>e=ig (.func (.func 223) #[] #[gE w.heap.size])/\w'=(w.alloc (gz #[.func f d h] 62)):=by
 go_enter func125,ntmps125;go_wp2;go_ret;simp
def Pt (bB:Nat) (f:Fn) (d h:jA) (w:gm):
  Calls prog 133 #[gE bB,.func f d h] w λe w'=>e=ig (.func (.func 228) #[] #[gE w.heap.size,gE (w.heap.size+1)])/\w'=((w.alloc (gz #[gE bB] 116)).alloc (gz #[.func f d h] 163)):=by
 go_enter func133,ntmps133;go_wp2;go_ret;simp
def Sq (bB:Nat) (f:Fn) (d h:jA) (m:Int) (w:gm):
  Calls prog 118 #[gE bB,.func f d h,fV m] w λe w'=>e=ig (.func (.func 215) #[] #[gE w.heap.size,gE (w.heap.size+1),gE (w.heap.size+1+1)])/\w'=(((w.alloc (gz #[gE bB] 116)).alloc (gz #[.func f d h] 84)).alloc (gz #[fV m] 172)):=by
 go_enter func118,ntmps118;go_wp2;go_ret;simp
def Pu (bB:Nat) (f:Fn) (d h:jA) (n:fY) (m:Int) (w:gm):
  Calls prog 120 #[gE bB,.func f d h,gu n,fV m] w λe w'=>e=ig (.func (.func 217) #[] #[gE w.heap.size,gE (w.heap.size+1),gE (w.heap.size+1+1),gE (w.heap.size+1+1+1)])/\w'=((((w.alloc (gz #[gE bB] 116)).alloc (gz #[.func f d h] 84)).alloc (gz #[gu n] 9)).alloc (gz #[fV m] 172)):=by
 go_enter func120,ntmps120;go_wp2;go_ret;exact⟨by simp,rfl⟩
def Jp:List TypeId:=[175,135,137,278,65,120,293,160,72,167,67]
def Ym:List TypeId:=[175,135,137,278,65,120,293,160,167]
def QK (h:t∈Ym):t∈Jp:=by
 revert t;decide
def Calm (w:gm) (e:Nat):Prop:=(∃f d,w.heap[e]?=some (.map f d))\/∃c t,w.heap[e]?=some (gz c t)/\t∉Jp
def Fr (bs:Nat) (w w':gm):Prop:=∃S,Kept S w w'/\∀k∈S,k < w.heap.size->(∃c t m,w.heap[k]?=some (.cells c t m)/\t∈Ym)/\bs<=k
def Fr.gN {bs : Nat} (h:Kept [] w w'):Fr bs w w':=⟨[],h,λ_ d=>by cases d⟩
def Fr.refl {bs : Nat} (w:gm):Fr bs w w:= .gN (Kept.refl _ _)
def Fr.size {bs : Nat} (h:Fr bs w w'):w.heap.size<=w'.heap.size:=by have⟨S,hk,_⟩:=h;exact hk.size
theorem Fr.calm {bs : Nat} (h:Fr bs w w') {e : Nat} (q:Calm w e):w'.heap[e]?=w.heap[e]?:=by
 have⟨S,hk,hS⟩:=h;have d:e < w.heap.size:=by
  rcases q with⟨s,r,f⟩|⟨c,t,f,_⟩
  .grind
  .grind
 refine hk.block e d λy=>?_;have⟨⟨c,t,m,h2,ht⟩,_⟩:=hS e y d;rcases q with⟨s,r,f⟩|⟨D,H,f,n⟩
 .grind
 .rw[f]at h2;simp at h2;exact n (by rw[h2.2.1];exact QK ht)
theorem Fr.trans {bs : Nat} {b c : gm} (h:Fr bs a b) (k:Fr bs b c):Fr bs a c:=by
 have⟨S1,k1,h1⟩:=h;have⟨S2,k2,h2⟩:=k;refine⟨S1++S2,(k1.mono (λx f _=>by simp[f])).trans (k2.mono (λx f _=>by simp[f])),λx f d=>?_⟩;by_cases n:x∈S1
 .grind
 .have q:x∈S2:=by simpa [n]using f
  have⟨⟨cc,t,m,hc,ht⟩,hbs⟩:=h2 x q (lU d k1.size);exact⟨⟨cc,t,m,(k1.block x d n).symm.trans hc,ht⟩,hbs⟩
def Fr.jL {bs : Nat} (h:Kept S w w') (d:∀k∈S,(∃c t m,w.heap[k]?=some (.cells c t m)/\t∈Ym)/\bs<=k):Fr bs w w':=⟨S,h,λk f _=>d k f⟩
def Fr.cell {bs : Nat} (h:Fr bs w w') {e : Nat} (d:w.heap[e]?=some (gz c t)) (f:t∉Jp):w'.heap[e]?=some (gz c t):=(h.calm (.inr ⟨c,t,d,f⟩)).trans d
def Fr.kept {bs : Nat} (h:Fr bs w w') (d:Kept [] a w) (n:a.heap.size<=bs):Kept [] a w':=by
 have⟨S,hS,hT⟩:=h;refine⟨hS.os.trans d.os,hS.tape.trans d.tape,hS.output.trans d.output,jH d.size hS.size,λk f _=>?_⟩;refine(hS.block k (lU f d.size) λm=>?_).trans (d.block k f (by simp));have:=(hT k m (lU f d.size)).2;omega
theorem Fr.Ar {bs : Nat} (h:Fr bs w w') {e : Nat} {m : Nat×Nat} (f:w.heap[e]?=some (.cells c t m)) (q:t∉Ym):w'.heap[e]?=some (.cells c t m):=by
 have⟨S,hS,hT⟩:=h;have d:e < w.heap.size:=(Array.getElem?_eq_some_iff.1 f).1;refine(hS.block e d λn=>?_).trans f;grind
def yJ (bm:Nat) (w:gm) (e:Nat):Prop:=(e=bm/\∃f d,w.heap[e]?=some (.map f d))\/∃c t,w.heap[e]?=some (gz c t)/\t∉Jp
def xk (bm:Nat) (w w':gm):Prop:=∃S,Kept S w w'/\∀k∈S,k < w.heap.size->(∃c t m,w.heap[k]?=some (.cells c t m)/\t∈Jp)\/((∃f d,w.heap[k]?=some (.map f d))/\k≠bm)
def Fr.n {bs : Nat} (h:Fr bs w w') (bm:Nat):xk bm w w':=by
 have⟨S,hk,hS⟩:=h;exact⟨S,hk,λk d f=>by have⟨⟨c,t,m,h3,h4⟩,_⟩:=hS k d f;exact .inl ⟨c,t,m,h3,QK h4⟩⟩
def xk.gN (h:Kept [] w w'):xk bm w w':=(Fr.gN (bs:=0) h).n bm
def xk.refl (bm:Nat) (w:gm):xk bm w w:= .gN (Kept.refl _ _)
def xk.size (h:xk bm w w'):w.heap.size<=w'.heap.size:=by have⟨S,hk,_⟩:=h;exact hk.size
theorem xk.of_map (h:Kept [b] w w') (n:∃f d,w.heap[b]?=some (.map f d)) (m:b≠bm):xk bm w w':=⟨[b],h,λk q _=>by grind⟩
theorem xk.calm (h:xk bm w w') {e : Nat} (n:yJ bm w e):w'.heap[e]?=w.heap[e]?:=by
 have⟨S,hk,hS⟩:=h;have f:e < w.heap.size:=by
  rcases n with⟨_,s,r,d⟩|⟨c,t,d,_⟩
  .grind
  .grind
 refine hk.block e f λN=>?_;rcases hS e N f with⟨c,t,m,I,V⟩|⟨⟨H,D,I⟩,R⟩
 .rcases n with⟨_,s,r,d⟩|⟨y,U,d,q⟩
  all_goals grind
 .rcases n with⟨e1,s,r,d⟩|⟨y,U,d,q⟩
  all_goals grind
theorem yJ.fr {e : Nat} (d:yJ bm w e) (h:xk bm w w'):yJ bm w' e:=by
 have e1:=h.calm d;grind[yJ]
theorem xk.trans {b c : gm} (h:xk bm a b) (k:xk bm b c):xk bm a c:=by
 have⟨S1,k1,h1⟩:=h;have⟨S2,k2,h2⟩:=k;refine⟨S1++S2,(k1.mono (λx d _=>by simp[d])).trans (k2.mono (λx d _=>by simp[d])),λx d m=>?_⟩;by_cases f:x∈S1
 .grind
 .have n:x∈S2:=by simpa [f]using d
  have e:=k1.block x m f;grind
def xk.cell (h:xk bm w w') {e : Nat} (d:w.heap[e]?=some (gz c t)) (f:t∉Jp):w'.heap[e]?=some (gz c t):=(h.calm (.inr ⟨c,t,d,f⟩)).trans d
def yq (w:gm):Prop:=sj w/\∃c t,w.heap[1]?=some (gz c t)/\t∉Jp
theorem yq.fr (d:yq w) (h:xk bm w w'):yq w':=by
 have⟨hb1,c,t,hc,ht⟩:=d;have e1:=h.calm (.inr ⟨c,t,hc,ht⟩);refine⟨?_,c,t,e1.trans hc,ht⟩;unfold sj Lib.TabIs World.var? at hb1|-;have e:prog.globalNamed "strings.asciiSpace"=some 1:=rfl;grind
def Ask (bm:Nat) (v:gG) (p:fY->Bool) (w:gm):Prop:=∃E,oB E v p w/\∀e∈E,yJ bm w e
def Ask.fr (h:Ask bm v p w) (d:xk bm w w'):Ask bm v p w':=by
 have⟨E,hA,hC⟩:=h;exact⟨E,hA.keeps (λk m=>d.calm (hC k m)) d.size,λe f=>(hC e f).fr d⟩
def Ask.call (h:Ask bm v p w):∃k f,v= .func (.func k) #[] f/\(∀d w,(callFunc k d).run prog w= .ok (.enter k d) w)/\∀W,xk bm w W->∀s,Calls prog k (#[gu s]++f) W λe W'=>e=ig (.bool (p s))/\W'=W:=by
 have⟨E,hA,hC⟩:=h;have⟨k,f,hv,he,ha⟩:=hA.ex;exact⟨k,f,hv,he,λW n s=>ha W (λe m=>n.calm (hC e m)) s⟩
def Pm (bm g cap:Nat) (d:List fY) (w:gm) (r:w.heap[g]?=some (gz (d.map Value.string).toArray 9)) (f:d.length<=4096):
  Calls prog 216 #[oo g d.length cap] w λe w'=>(∃v,e=ig v/\Ask bm v (gZ d) w')/\Kept [] w w':=by
 refine(agA g cap d.length w).mono ?_;rintro e w' ⟨rfl,rfl⟩;have q:Kept [] w (w.alloc (gz #[oo g d.length cap] 199)):=(Kept.refl _ _).alloc _;have h:=fP w (gz #[oo g d.length cap] 199);have m:=q.at r (by simp);refine⟨⟨_,rfl,_,abW _ g cap d _ h m f,λe n=>?_⟩,q⟩;simp at n;rcases n with rfl|rfl
 .exact .inr ⟨_,_,h,by decide⟩
 .exact .inr ⟨_,_,m,by decide⟩
def WI (bm c:Nat) (L:List (fY×Nat)) (w:gm) (D:sX w bm (AX L)) (y:c < 16) (r:∀s,wL L s < 16):
  Calls prog 32 #[.agg #[.map (some bm)],fV c] w λe w'=>(∃v,e=ig v/\Ask bm v (Xi L c) w')/\Kept [] w w':=by
 have h:Calls prog 32 #[.agg #[.map (some bm)],fV c] w λe w'=>e=ig (.func (.func 54) #[] #[gE w.heap.size,gE (w.heap.size+1)])/\w'=(w.alloc (gz #[.map (some bm)] 87)).alloc (gz #[fV c] 90):=by
  go_enter func32,ntmps32;go_wp2;go_ret;exact⟨by simp,rfl⟩
 refine h.mono ?_;rintro e w' ⟨rfl,rfl⟩;have H:Kept [] w (w.alloc (gz #[.map (some bm)] 87)):=(Kept.refl _ _).alloc _;have n:=H.alloc (gz #[fV c] 90);have d:=fP (w.alloc (gz #[.map (some bm)] 87)) (gz #[fV c] 90);rw[xW]at d;have f:=(Below.heap_alloc (w.alloc (gz #[.map (some bm)] 87)) (gz #[fV c] 90) w.heap.size (by simp)).trans (fP w _);have q:=D.kept n (by simp);refine⟨⟨_,rfl,_,ad4 _ _ bm c L _ f d q y r,λe m=>?_⟩,n⟩;simp at m;rcases m with rfl|rfl|rfl
 .exact .inr ⟨_,_,f,by decide⟩
 .exact .inr ⟨_,_,d,by decide⟩
 .have⟨es,ck,ha,_⟩:=q;exact .inl ⟨rfl,es,ck,ha⟩
theorem NT {d f : List Nat} {h m : Nat} (n:yJ bm w h) (q:yJ bm w m) (c1:∀e∈d,yJ bm w e) (c2:∀e∈f,yJ bm w e):∀e∈h::m::(d++f),yJ bm w e:=by
 grind
def ah8 (bm:Nat) (v1 v2:gG) (p q:fY->Bool) (w:gm) (r:Ask bm v1 p w) (y:Ask bm v2 q w):
  Calls prog 236 #[v1,v2] w λe w'=>(∃v,e=ig v/\Ask bm v (λs=>p s||q s) w')/\Kept [] w w':=by
 have⟨E1,a1,c1⟩:=r;have⟨E2,a2,c2⟩:=y;refine(aff E1 E2 v1 v2 p q w a1 a2).mono ?_;rintro e w' ⟨⟨v,rfl,n,h,m⟩,f⟩;exact⟨⟨v,rfl,_,n,NT (.inr ⟨_,_,h,by decide⟩) (.inr ⟨_,_,m,by decide⟩) (λe d=>(c1 e d).fr (.gN f)) (λe d=>(c2 e d).fr (.gN f))⟩,f⟩
def ae4 (bm:Nat) (v1:gG) (p:fY->Bool) (w:gm) (n:Ask bm v1 p w):
  Calls prog 235 #[v1] w λe w'=>(∃v,e=ig v/\Ask bm v (λs=>!p s) w')/\Kept [] w w':=by
 have⟨E1,a1,c1⟩:=n;refine(acq E1 v1 p w a1).mono ?_;rintro e w' ⟨⟨v,rfl,m,h⟩,f⟩;refine⟨⟨v,rfl,_,m,λe d=>?_⟩,f⟩;simp at d;rcases d with rfl|d
 .exact .inr ⟨_,_,h,by decide⟩
 .exact(c1 e d).fr (.gN f)
inductive Ru
 |nil
 |nothing
 |hH (f:Nat)
 |pO (m:Int)
 |gM (pf:Nat) (own:Bool)
 |ahead (f:Nat)
 |ends (f:Nat)
 |LZ (r:Ru)
 |qF (ks:List fY) (m:Int)
 |nj (ks:List fY) (name:fY) (m:Int)
 |item (ks:List fY)
abbrev iq (b:Nat):gG:=gE b
abbrev box (w:gm) (b:Nat) (v:gG) (t:TypeId):Prop:=w.heap[b]?=some (gz #[v] t)
def n4 (bm bB bD:Nat):Ru->gG->gm->Prop
 | .nil,v,_=>v= .nilFunc
 | .nothing,v,_=>v= .func (.func 88) #[] #[]
 | .hH f,v,_=>v= .func (.func f) #[iq bB] #[]
 | .pO m,v,w=>∃d h,v= .func (.func 171) #[] #[iq d,iq h]/\box w d (iq bB) 116/\box w h (fV m) 172
 | .gM pf own,v,w=>∃d,v= .func (.func 165) #[] #[iq d]/\box w d (.func (.func pf) #[iq (if own then bB else bD)] #[]) 206
 | .ahead f,v,w=>∃d h,v= .func (.func 218) #[] #[iq h,iq d]/\box w d (iq bB) 116/\box w h (.func (.func f) #[iq bB] #[]) 62
 | .ends f,v,w=>∃d,v= .func (.func 223) #[] #[iq d]/\box w d (.func (.func f) #[iq bB] #[]) 62
 | .LZ r,v,w=>∃d h u,v= .func (.func 228) #[] #[iq d,iq h]/\box w d (iq bB) 116/\box w h u 163/\n4 bm bB bD r u w
 | .qF ks m,v,w=>∃d h n u,v= .func (.func 215) #[] #[iq d,iq h,iq n]/\box w d (iq bB) 116/\box w h u 84/\Ask bm u (gZ ks) w/\box w n (fV m) 172
 | .nj ks name m,v,w=>∃d h n q u,v= .func (.func 217) #[] #[iq d,iq h,iq n,iq q]/\box w d (iq bB) 116/\box w h u 84/\Ask bm u (gZ ks) w/\box w n (gu name) 9/\box w q (fV m) 172
 | .item ks,v,w=>∃d h n y D,v= .func (.func 272) #[] #[iq d,iq h,iq n]/\box w d (iq bB) 116/\box w h y 84/\Ask bm y (gZ ks) w/\box w n D 84/\Ask bm D (λs=>ly s&&!gZ [jR,nf] s) w
def box.fr (h:box w b v t) (d:xk bm w w') (f:t∉Jp):box w' b v t:=d.cell h f
def n4.fr:∀{r:Ru} {v:gG} {w w':gm},n4 bm bB bD r v w->xk bm w w'->n4 bm bB bD r v w'
 | .nil,_,_,_,h,_=>h
 | .nothing,_,_,_,h,_=>h
 | .hH _,_,_,_,h,_=>h
 | .pO _,_,_,_,⟨b1,b2,e,h1,h2⟩,hf=>⟨b1,b2,e,box.fr h1 hf (by decide),box.fr h2 hf (by decide)⟩
 | .gM _ _,_,_,_,⟨b1,e,h1⟩,hf=>⟨b1,e,box.fr h1 hf (by decide)⟩
 | .ahead _,_,_,_,⟨b1,b2,e,h1,h2⟩,hf=>⟨b1,b2,e,box.fr h1 hf (by decide),box.fr h2 hf (by decide)⟩
 | .ends _,_,_,_,⟨b1,e,h1⟩,hf=>⟨b1,e,box.fr h1 hf (by decide)⟩
 | .LZ _,_,_,_,⟨b1,b2,u,e,h1,h2,hr⟩,hf=>⟨b1,b2,u,e,box.fr h1 hf (by decide),box.fr h2 hf (by decide),hr.fr hf⟩
 | .qF _ _,_,_,_,⟨b1,b2,b3,u,e,h1,h2,ha,h3⟩,hf=>⟨b1,b2,b3,u,e,box.fr h1 hf (by decide),box.fr h2 hf (by decide),ha.fr hf,box.fr h3 hf (by decide)⟩
 | .nj _ _ _,_,_,_,⟨b1,b2,b3,b4,u,e,h1,h2,ha,h3,h4⟩,hf=>⟨b1,b2,b3,b4,u,e,box.fr h1 hf (by decide),box.fr h2 hf (by decide),ha.fr hf,box.fr h3 hf (by decide),box.fr h4 hf (by decide)⟩
 | .item _,_,_,_,⟨b1,b2,b3,u1,u2,e,h1,h2,ha,h3,hb⟩,hf=>⟨b1,b2,b3,u1,u2,e,box.fr h1 hf (by decide),box.fr h2 hf (by decide),ha.fr hf,box.fr h3 hf (by decide),hb.fr hf⟩
def oq:List (List fY×Ru)->fY->Option Ru
 |[],_=>none
 |p::R,k=>if gZ p.1 k then some p.2 else oq R k
def IsMap (bm bB bD b:Nat) (R:List (List fY×Ru)) (v:gG) (w:gm):Prop:=
 ∃L,v= .map (some b)/\sX w b L/\∀k,match oq R k with
  |some r=>∃u,AD L k=some u/\n4 bm bB bD r u w
  |none=>AD L k=none
theorem IsMap.fr {R : List (List fY×Ru)} (h:IsMap bm bB bD b R v w) (f:xk bm w w') (d:w'.heap[b]?=w.heap[b]?):IsMap bm bB bD b R v w':=by
 have⟨L,e,hm,hr⟩:=h;refine⟨L,e,hm.keeps d,λk=>?_⟩;have:=hr k;cases hq:oq R k with
 |none=>grind
 |some r=>rw[hq]at this;have⟨u,hu,hi⟩:=this;exact⟨u,hu,hi.fr f⟩
theorem Nz:∀(L:List (fY×gG)) (k:fY) (v:gG) (s:fY),AD (DG L k v) s=if kJ s k then some v else AD L s
 |[],k,v,s=>rfl
 |p::L,k,v,s=>by
  unfold DG;by_cases d:kJ k p.1=true
  .grind[AD,kJ,DG]
  .rw[gH d];unfold AD;rw[Nz L k v s];grind[kJ]
theorem RW (v:gG) (s:fY) (ks:List fY):∀(L:List (fY×gG)),AD (zR L ks v) s=if gZ ks s then some v else AD L s:=by
 induction ks with
 |nil=>grind[AD,zR,gZ]
 |cons k ks ih=>
  intro L;show AD (zR (DG L k v) ks v) s=_;rw[ih,Nz];grind[gZ]
theorem IsMap.at {R : List (List fY×Ru)} (h:IsMap bm bB bD b R v w):∃f d,w.heap[b]?=some (.map f d):=by
 have⟨L,e,⟨f,d,ha,_⟩,hr⟩:=h;grind
theorem Vy (bm bB bD b:Nat) (s:fY) (ks:List fY) (r:Ru) (R:List (List fY×Ru)) (v:gG) (w:gm) (D:qx s=true) (m:words s=ks) (H:yq w) (y:IsMap bm bB bD b R (.map (some b)) w) (n:b≠bm) (I:n4 bm bB bD r v w):
  Calls prog 93 #[.map (some b),gu s,v] w λe w'=>e=ig (.map (some b))/\IsMap bm bB bD b ((ks,r)::R) (.map (some b)) w'/\Kept [b] w w'/\xk bm w w':=by
 have f:=y.at;have⟨L,_,hM,hR⟩:=y;refine(ajn b s v L w D H.1 hM).mono ?_;rintro e w' ⟨rfl,d,q⟩;have h:=xk.of_map q f n;rw[m]at d;refine⟨rfl,⟨_,rfl,d,λk=>?_⟩,q,h⟩;rw[RW];unfold oq;cases hq:gZ ks k with
 |true=>simp;exact I.fr h
 |false=>
  simp;have:=hR k;cases hq2:oq R k with
  |none=>grind
  |some r2=>rw[hq2]at this;have⟨u,hu,hi⟩:=this;exact⟨u,hu,hi.fr h⟩
def Xt (bm bB bD:Nat) (w:gm):IsMap bm bB bD w.heap.size [] (.map (some w.heap.size)) (w.alloc (.map #[] 0)):=⟨[],rfl,sX.new w,λ_=>rfl⟩
end
end Go.Proofs.YthcohfdidcdchaaGreatDoor
