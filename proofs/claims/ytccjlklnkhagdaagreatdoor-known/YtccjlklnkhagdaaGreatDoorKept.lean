import Derived.WalkSpells
import Derived.WalkLawsBesides
import Derived.Lib.AppendZerosOnto
import Derived.Shelf.Spec.SlicesInsert
import Derived.RangeFuncNested
import Derived.RangeFuncBound
import Derived.Shelf.RegionOpen
import Derived.OwnWalkIn
import Derived.LoopNIn
import Derived.LoopIn
import Derived.Deep.RegionHeld3
import Derived.Test.YtccjlklnkhagdaaGreatDoorShelf
import Derived.Lib.ItoaMem
import Derived.Laws.EntriesVeiled
set_option linter.unusedSimpArgs false
set_option linter.unusedVariables false
set_option linter.defProp false
set_option maxHeartbeats 0
set_option maxRecDepth 100000
namespace Go.Proofs.YtccjlklnkhagdaaGreatDoor
open Go.RowKit Tryz
def gW:=@Nat.le_refl
def jH:=@Nat.le_trans
def mf:=@Nat.lt_of_lt_of_le
def Zf:=@World.cell?_of_block
def je:=@lt_of_block
def SZ:=@List.eq_nil_of_length_eq_zero
def py:=@World.ownsRow_nil
def y8:=@List.map_cons
def gI:=@if_neg
def gN:=@if_pos
def DS:=@List.getElem?_take
def qv:=@run_underlying
def uR:=@decide_eq_true
def wQ:=@decide_eq_false
def ti:=@List.getElem_mem
def Au:=@wp_loop_rounds
def rF:=@rounds_succ
def sW:=@List.length_cons
def Ze:=@List.take_succ_eq_append_getElem
def wu:=@Array.getElem?_eq_getElem
def jz:=@Option.some.inj
def tj:=@info_parts
def Uj:=@List.getElem?_drop
def DT:=@Nat.mul_one
def JD:=@List.mem_of_mem_drop
def uS:=@List.append_assoc
def JF:=@List.take_append_of_le_length
def LV:=@List.take_take
def QN:=@Nat.min_eq_left
def Uk:=@run_callFunc_extern
def Av:=@List.take_of_length_le
def F7:=@List.drop_of_length_le
def DU:=@List.append_nil
def sC:=@List.nil_append
def Ul:=@run_copy_cells
def wR:=@Ne.symm
def yb:=@ownsRow_setCell_other
def pX:=@List.mem_cons_of_mem
def Zg:=@List.dropLast_eq_take
def qw:=@List.getElem?_eq_getElem
def ra:=@List.map_append
def tk:=@List.mem_of_getElem?
def Um:=@List.reverse_append
def Zh:=@List.eq_nil_or_concat
def Un:=@List.dropLast_concat
def o0:=@bodyPost_ret
def F8:=@results_none
def rG:=@World.putObj_heap_other
def wS:=@List.size_toArray
def wx:=@List.length_nil
def wT:=@Array.replicate_succ
def wU:=@Array.replicate_zero
def wV:=@List.push_toArray
def wW:=@List.append_toArray
def uT:=@List.cons_append
def QO:=@List.getElem?_reverse
def DV:=@List.take_add_one
def sD:=@ByteArray.toList_eq
def Zi:=@List.findIdx_lt_length_of_exists
def pJ:=@congrArg
def yc:=@World.size_alloc
def QP:=@List.cons.injEq
def QQ:=@Array.size_setIfInBounds
def DW:=@Array.getElem?_setIfInBounds_ne
def JG:=@MapKept.run_getObj_map
def Uo:=@Array.getElem?_toList
def Zj:=@List.filter_eq_nil_iff
def qx:=@Bool.and_eq_true
def QS:=@List.mem_filter
def QT:=@Array.getD_eq_getD_getElem?
def Zk:=@Array.getElem?_eq_none
def tl:=@List.mem_cons_self
def yd:=@List.getD_eq_getElem?_getD
def Up:=@List.getElem?_append_left
def LW:=@List.all_eq_true
def QU:=@List.mem_range
def wX:=@Bool.false_eq_true
def uU:=@wp_region_any
def mK:=@wpOp_step
def Zl:=@List.length_eraseIdx_of_lt
def Aw:=@decide_eq_true_eq
def iP:=@Nat.zero_le
def uW:=@Nat.lt_or_ge
def JH:=@List.nodup_cons
abbrev gn:=ByteArray
abbrev gr:=World
abbrev gG:=Value
abbrev lh:=List (ByteArray×ByteArray)
abbrev kL:=List (Option Nat)
abbrev jb:=Option Nat
abbrev jE:=Array Value
@[simp,go_sem] abbrev kC:ByteArray:=⟨#[]⟩
@[simp,go_sem] abbrev ye:ByteArray:=⟨#[10]⟩
@[simp,go_sem] abbrev lz:ByteArray:=⟨#[100,100]⟩
@[simp,go_sem] abbrev jI:ByteArray:=⟨#[100,105,118]⟩
@[simp,go_sem] abbrev qy:ByteArray:=⟨#[100,108]⟩
@[simp,go_sem] abbrev lA:ByteArray:=⟨#[100,116]⟩
@[simp,go_sem] abbrev iG:ByteArray:=⟨#[102,111,114,109]⟩
@[simp,go_sem] abbrev gL:ByteArray:=⟨#[104,101,97,100]⟩
@[simp,go_sem] abbrev lB:ByteArray:=⟨#[104,105,100,100,101,110]⟩
@[simp,go_sem] abbrev tW:ByteArray:=⟨#[104,114]⟩
@[simp,go_sem] abbrev fP:ByteArray:=⟨#[104,116,109,108]⟩
@[simp,go_sem] abbrev mg:ByteArray:=⟨#[104,49]⟩
@[simp,go_sem] abbrev mh:ByteArray:=⟨#[104,50]⟩
@[simp,go_sem] abbrev Ay:ByteArray:=⟨#[105]⟩
@[simp,go_sem] abbrev sX:ByteArray:=⟨#[105,109,103]⟩
@[simp,go_sem] abbrev jw:ByteArray:=⟨#[105,110,112,117,116]⟩
@[simp,go_sem] abbrev kF:ByteArray:=⟨#[108,105]⟩
@[simp,go_sem] abbrev jc:ByteArray:=⟨#[109,101,116,97]⟩
@[simp,go_sem] abbrev nG:ByteArray:=⟨#[110,111,116,105,110,59]⟩
@[simp,go_sem] abbrev mW:ByteArray:=⟨#[110,111,116,105,110,69,59]⟩
@[simp,go_sem] abbrev nH:ByteArray:=⟨#[110,111,116,110,105,59]⟩
@[simp,go_sem] abbrev iB:ByteArray:=⟨#[110,111,98,114]⟩
@[simp,go_sem] abbrev fU:ByteArray:=⟨#[111,112,116,103,114,111,117,112]⟩
@[simp,go_sem] abbrev gE:ByteArray:=⟨#[111,112,116,105,111,110]⟩
@[simp,go_sem] abbrev gO:ByteArray:=⟨#[111,98,106,101,99,116]⟩
@[simp,go_sem] abbrev mX:ByteArray:=⟨#[112]⟩
@[simp,go_sem] abbrev mL:ByteArray:=⟨#[112,114,101]⟩
@[simp,go_sem] abbrev iS:ByteArray:=⟨#[115,101,108,101,99,116]⟩
@[simp,go_sem] abbrev iK:ByteArray:=⟨#[115,116,121,108,101]⟩
@[simp,go_sem] abbrev il:ByteArray:=⟨#[116,100]⟩
@[simp,go_sem] abbrev jx:ByteArray:=⟨#[116,101,120,116,97,114,101,97]⟩
@[simp,go_sem] abbrev fX:ByteArray:=⟨#[116,102,111,111,116]⟩
@[simp,go_sem] abbrev im:ByteArray:=⟨#[116,104]⟩
@[simp,go_sem] abbrev fY:ByteArray:=⟨#[116,104,101,97,100]⟩
@[simp,go_sem] abbrev pz:ByteArray:=⟨#[116,105,109,101,115]⟩
@[simp,go_sem] abbrev mY:ByteArray:=⟨#[116,105,109,101,115,98,59]⟩
@[simp,go_sem] abbrev jk:ByteArray:=⟨#[116,105,116,108,101]⟩
@[simp,go_sem] abbrev gX:ByteArray:=⟨#[116,114]⟩
@[simp,go_sem] abbrev nE:ByteArray:=⟨#[116,121,112,101]⟩
@[simp,go_sem] abbrev fR:ByteArray:=⟨#[116,97,98,108,101]⟩
@[simp,go_sem] abbrev fW:ByteArray:=⟨#[116,98,111,100,121]⟩
@[simp,go_sem] abbrev oj:ByteArray:=⟨#[117,108]⟩
@[simp,go_sem] abbrev si:ByteArray:=⟨#[194,160]⟩
@[simp,go_sem] abbrev pA:ByteArray:=⟨#[226,139,185,204,184]⟩
@[simp,go_sem] abbrev mA:ByteArray:=⟨#[32,9,10,12]⟩
@[simp,go_sem] abbrev ji:ByteArray:=⟨#[32,9,10,12,47,62]⟩
@[simp,go_sem] abbrev pB:ByteArray:=⟨#[32,9,10,12,47,62,61]⟩
@[simp,go_sem] abbrev mi:ByteArray:=⟨#[32,9,10,12,62]⟩
@[simp,go_sem] abbrev lC:ByteArray:=⟨#[33,100,111,99,116,121,112,101]⟩
@[simp,go_sem] abbrev oN:ByteArray:=⟨#[34]⟩
@[simp,go_sem] abbrev tm:ByteArray:=⟨#[38]⟩
@[simp,go_sem] abbrev qU:ByteArray:=⟨#[38,103,116,59]⟩
@[simp,go_sem] abbrev kT:ByteArray:=⟨#[38,108,116,59]⟩
@[simp,go_sem] abbrev mR:ByteArray:=⟨#[38,110,98,115,112,59]⟩
@[simp,go_sem] abbrev ol:ByteArray:=⟨#[38,113,117,111,116,59]⟩
@[simp,go_sem] abbrev jQ:ByteArray:=⟨#[38,97,109,112,59]⟩
@[simp,go_sem] abbrev sE:ByteArray:=⟨#[39]⟩
@[simp,go_sem] abbrev oe:ByteArray:=⟨#[45,45,62]⟩
@[simp,go_sem] abbrev yf:ByteArray:=⟨#[45,62]⟩
@[simp,go_sem] abbrev pY:ByteArray:=⟨#[60]⟩
@[simp,go_sem] abbrev mM:ByteArray:=⟨#[60,33,45,45]⟩
@[simp,go_sem] abbrev iI:ByteArray:=⟨#[60,33,68,79,67,84,89,80,69,32]⟩
@[simp,go_sem] abbrev pK:ByteArray:=⟨#[60,47]⟩
@[simp,go_sem] abbrev yg:ByteArray:=⟨#[61,34]⟩
@[simp,go_sem] abbrev iO:ByteArray:=⟨#[62]⟩
@[simp,go_sem] abbrev lM:ByteArray:=⟨#[78,101,119,76,105,110,101,59]⟩
@[simp,go_sem] abbrev sY:ByteArray:=⟨#[97]⟩
@[simp,go_sem] abbrev F9:ByteArray:=⟨#[98]⟩
@[simp,go_sem] abbrev gp:ByteArray:=⟨#[98,111,100,121]⟩
@[simp,go_sem] abbrev jN:ByteArray:=⟨#[98,114]⟩
@[simp,go_sem] abbrev gS:ByteArray:=⟨#[98,117,116,116,111,110]⟩
@[simp,go_sem] abbrev ig:ByteArray:=⟨#[99,111,108]⟩
@[simp,go_sem] abbrev fS:ByteArray:=⟨#[99,111,108,103,114,111,117,112]⟩
@[simp,go_sem] abbrev mZ:ByteArray:=⟨#[99,111,112,121,115,114,59]⟩
@[simp,go_sem] abbrev gh:ByteArray:=⟨#[99,97,112,116,105,111,110]⟩
abbrev gF (b:Nat):Value:=.pointer (some ⟨b,0,none⟩)
abbrev lK (b k:Nat):Value:=.pointer (some ⟨b,k,none⟩)
abbrev ga (n:Int):Value:=.int .i64 n
abbrev ir (v:Value):Ending:=.returned v
abbrev o9:Ending:=.returned (.tuple #[])
abbrev nI (b n c:Nat):Value:=.slice (some ⟨b,0,none⟩) n c
abbrev jV:Value:=.slice none 0 0
abbrev gy (c:Array Value) (t:TypeId):Obj:=.cells c t (0,0)
abbrev gw (s:ByteArray):Value:=.string s
section
variable {C args c : jE} {E K S : List Nat} {L : List (gn×gG)} {T t tB : TypeId} {W a cw cw' w w' w1 : gr} {X : Nat->Prop} {ao : Option Addr} {av kv u v v0 v1 v2 v3 v4 v5 v6 v7 v8 v9 : gG} {b bB bD base bm bs cap e f i j k s : Nat} {name : gn} {p : gn->Bool} {ja x : jb} {xs : kL} {z : Array Bool}
def fN {p : Prop} (h:p):Hid p:=h
structure Kept (S:List Nat) (w w':gr):Prop where
 os:w'.os=w.os
 tape:w'.tape=w.tape
 output:w'.output=w.output
 size:w.heap.size<=w'.heap.size
 block:∀k,k < w.heap.size->k∉S->w'.heap[k]?=w.heap[k]?
def Kept.refl (S:List Nat) (w:gr):Kept S w w:=⟨rfl,rfl,rfl,gW _,λ_ _ _=>rfl⟩
def Kept.trans {b c : gr} (h:Kept S a b) (k:Kept S b c):Kept S a c:=
 ⟨k.os.trans h.os,k.tape.trans h.tape,k.output.trans h.output,jH h.size k.size,λi d g=>(k.block i (mf d h.size) g).trans (h.block i d g)⟩
def Kept.mono {S' : List Nat} (h:Kept S w w') (m:∀k,k∈S->k < w.heap.size->k∈S'):Kept S' w w':=
 ⟨h.os,h.tape,h.output,h.size,λk d l=>h.block k d (λg=>l (m k g d))⟩
theorem Kept.next {S' : List Nat} {b c : gr} (h:Kept S a b) (k:Kept S' b c) (m:∀x∈S',x∈S\/a.heap.size<=x):Kept S a c:=
 ⟨k.os.trans h.os,k.tape.trans h.tape,k.output.trans h.output,jH h.size k.size,λi d g=>(k.block i (mf d h.size) (λl=>by grind)).trans (h.block i d g)⟩
def Kept.drew (h:Kept S a w):Kept S a w.drew:=⟨h.os,h.tape,h.output,h.size,h.block⟩
def Kept.drewN (h:Kept S a w) (q:Nat):Kept S a (w.drewN q):=⟨h.os,h.tape,h.output,h.size,h.block⟩
def Kept.alloc (h:Kept S a w) (o:Obj):Kept S a (w.alloc o):=
 ⟨h.os,h.tape,h.output,jH h.size (by simp),λk d g=>(Below.heap_alloc w o k (mf d h.size)).trans (h.block k d g)⟩
theorem Kept.setCell (h:Kept S a w) {p : Addr} (g:p.block∈S\/a.heap.size<=p.block) (u:gG):Kept S a (w.setCell p u):=
 ⟨h.os,h.tape,h.output,by simpa using h.size,λk l m=>by
  have d:k≠p.block:=by
   rintro rfl;rcases g with g|g
   .grind
   .omega
  exact(Below.heap_setCell w p u k d).trans (h.block k l m)⟩
theorem Kept.grown {d : jb} (h:Kept S a w) (g:w.grownBy w' d) (o:∀k,d=some k->k∈S\/a.heap.size<=k):Kept S a w':=
 ⟨g.os.trans h.os,g.tape.trans h.tape,g.output.trans h.output,jH h.size g.size,λk m q=>by
  have l:some k≠d:=by
   rintro rfl;rcases o k rfl with n|n
   .grind
   .omega
  exact(g.block k (mf m h.size) l).trans (h.block k m q)⟩
theorem Kept.below (h:Kept S w w') {B : Nat} (d:B<=w.heap.size) (m:∀k∈S,B<=k):Below B w w':=
 ⟨h.os,h.tape,h.output,h.size,λk g=>h.block k (mf g d) (λl=>by grind)⟩
def Kept.cell (h:Kept S w w') {p : Addr} (d:p.block < w.heap.size) (g:p.block∉S):w'.cell? p=w.cell? p:=Zf (w:=w) (h.block p.block d g)
def Kept.at (h:Kept S w w') {o : Obj} (d:w.heap[k]?=some o) (g:k∉S):w'.heap[k]?=some o:=
 (h.block k (je d) g).trans d
theorem xz {a : Nat} {l m : jE} {d g : TypeId} {n o : Nat×Nat} (q:w.heap[a]?=some (.cells l d n)) (y:w.heap[b]?=some (.cells m g o)) (h:d≠g):a≠b:=by
 grind
def fQ (w:gr) (o:Obj):(w.alloc o).heap[w.heap.size]?=some o:=by
 show(w.heap.push o)[w.heap.size]?=some o;simp
theorem Kept.ownsRow (h:Kept S w w') {e : TypeId} {d : Nat} {n : Nat} {xs : List gG} (y:w.ownsRow base e d v n xs) (D:∀k,v.ownBlock=some k->k∉S):w'.ownsRow base e d v n xs:=by
 have⟨h1,m⟩:=y;refine⟨h1,?_⟩;rcases m with m|⟨g,cap,l,rfl,o,q,A⟩
 .grind
 .exact .inr ⟨g,cap,l,rfl,o,(h.at q (D g rfl)),A⟩
section
variable {P:Program} (w:gr)
theorem jU {w:gr} {base d:Nat} {e:TypeId} {l:Nat} {v:gG} {n:Nat} {xs:List gG} (h:w.ownsRow base e l v n xs) (q:d<=base):w.ownsRow d e l v n xs:=by
 have⟨h1,o⟩:=h;refine⟨h1,?_⟩;rcases o with o|⟨g,cap,m,rfl,y,A⟩
 .grind
 .exact .inr ⟨g,cap,m,rfl,jH q y,A⟩
def MM {w w':gr} {d:jb} (h:w.grownBy w' none):w.grownBy w' d:=⟨h.os,h.tape,h.output,h.size,λk g _=>h.block k g (by simp)⟩
def zm (base:Nat) (t Y e:TypeId) (i:TypeInfo) (z:gG) (d l:Nat) (ht:P.underlying t=some (.slice e)) (Z:P.info? e=some i) (hz:i.zero=some z)
  (y:i.size=d) (N:i.bytes=l) (V:z.cells.size=d) (U:0 < d)
  (v:gG) (n:Nat) (xs:List gG) (o:w.ownsRow base e d v n xs)
  (a:Addr) (m c:Nat) (h:List gG) (hl:h.length=m*d) (q:∀j u,h[j]?=some u->w.cell? (a.add j)=some u) (h1:∀u∈h,u.oneCell'=true)
  (J:n+m<=maxLen) (A:(n+m)*l<=140737488355328) (D:base<=w.heap.size):
  ∃H w',(Builtin.append_ #[t,t] Y #[v,.slice (some a) m c]).run P w= .ok H w'/\w'.ownsRow base e d H (n+m) (xs++h)/\w.grownBy w' v.ownBlock/\
   (H.ownBlock=v.ownBlock\/∀k,H.ownBlock=some k->w.heap.size<=k):=by
 rcases o.2 with⟨rfl,rfl⟩|⟨g,cap,a1,rfl,a2,hg,a5,a3,a4,a0⟩
 .have hx:xs=[]:=SZ (by simpa using o.1);subst hx;have⟨H,w',hr,ho,hgr,_⟩:=run_append_own (P:=P) w w.heap.size t Y e i z d l ht Z hz y N V U (jV) 0 [] (py _ _ _ _) a m c h hl q h1 J A (gW _);exact⟨H,w',hr,jU ho D,hgr,.inr λk hk=>(ho.lt k hk).1⟩
 .by_cases I:n+m<=cap
  .have⟨w',hr,ho,hgr⟩:=run_append_fits (P:=P) w base t Y e i d ht Z y g n cap xs o a m c h hl q h1 I;exact⟨_,w',hr,ho,hgr,.inl rfl⟩
  .have⟨H,w',hr,ho,hgr⟩:=run_append_arg_grows (P:=P) w t Y e i z d l ht Z hz y N V U ⟨g,0,none⟩ n cap xs o.1 (o.cells (g:=g) rfl) a m c h hl q (by omega) J A;exact⟨H,w',hr,jU ho D,MM hgr,.inr λk hk=>(ho.lt k hk).1⟩
def ij {ops:Array Oper} {y:List Oper} {o:Oper} {a:Act} {Q:Exit->Act->gr->Prop} (Y:o.guard=none) (s x:Operand) (t:TypeId)
  (ho:o.op= .call {callee:= .builtin .append,args:=#[s,x],argTypes:=#[t,t]})
  (base:Nat) (e:TypeId) (i:TypeInfo) (z:gG) (d l:Nat) (ht:P.underlying t=some (.slice e)) (hi:P.info? e=some i) (hz:i.zero=some z)
  (H:i.size=d) (V:i.bytes=l) (a0:z.cells.size=d) (Z:0 < d)
  (v:gG) (n:Nat) (xs:List gG) (hs:a.eval s=v) (J:w.ownsRow base e d v n xs)
  (N:Addr) (m c:Nat) (g:List gG) (hx:a.eval x= .slice (some N) m c) (hl:g.length=m*d) (D:∀j u,g[j]?=some u->w.cell? (N.add j)=some u) (h1:∀u∈g,u.oneCell'=true)
  (U:n+m<=maxLen) (q:(n+m)*l<=140737488355328) (A:base<=w.heap.size)
  (h:∀I w',w'.ownsRow base e d I (n+m) (xs++g)->w.grownBy w' v.ownBlock->(I.ownBlock=v.ownBlock\/∀k,I.ownBlock=some k->w.heap.size<=k)->wpList P ops Q y (a.put o.dst I) w'):wpList P ops Q (o::y) a w:=by
 refine wpList_plain Y λ_ hK=>?_;have⟨I,w',hr,h2,h3,h4⟩:=zm (P:=P) w base t o.type e i z d l ht hi hz H V a0 Z v n xs J N m c g hl D h1 U q A;unfold Oper.wp execOp;simp only[ho,resolve,invoke,builtin,Sem.run_bind,Sem.run_pure,Result.andThen_ok,List.map_toArray,y8,List.map_nil,hs,hx,hr];exact hK _ _ (h I w' h2 h3 h4)
end
def kV (s:gn):List gG:=s.data.toList.map λb=>Value.int .u8 b.toNat
def Zp (s:gn):(kV s).length=s.size:=by
 simp[kV]
def JO (s t:gn):kV (s++t)=kV s++kV t:=by
 simp[kV]
def Rf (s:gn):∀u∈kV s,u.oneCell'=true:=by
 intro u d;simp[kV]at d;obtain⟨b,_,rfl⟩:=d;rfl
def fO (h:w.heap[b]?=some (gy c t)) (j:Nat):w.cell? ⟨b,j,none⟩=c[j]?:=by simp[World.cell?,h]
def gu (h:w.heap[b]?=some (gy c t)) (j:Nat):w.frozen? ⟨b,j,none⟩=false:=by simp[World.frozen?,h]
theorem fV (h:w.heap[b]?=some (gy c t)) (j:Nat) (u:gG):(w.setCell ⟨b,j,none⟩ u).heap[b]?=some (gy (c.setIfInBounds j u) t):=by
 have d:=je h;simp only[World.setCell];grind
theorem gv {e : TypeId} {d : Nat} {n : Nat} {xs : List gG} (l:w.ownsRow base e d v n xs):∃ao cap,v= .slice ao n cap:=by
 rcases l.2 with⟨rfl,m⟩|⟨g,cap,h,rfl,_⟩
 all_goals grind
theorem js (g j:Nat):(⟨g,0,none⟩:Addr).add j=⟨g,j,none⟩:=by unfold Addr.add;grind
def qD:gn:=⟨#[60,33,68,79,67,84,89,80,69,32,104,116,109,108,62]⟩
def knL:List (gn×gn×Bool):=[(qD++⟨#[60,112,62,49,60,98,62,50,60,105,62,51,60,47,98,62,52,60,47,105,62,53,60,47,112,62]⟩,⟨#[60,112,62,49,60,98,62,50,60,105,62,51,60,47,105,62,60,47,98,62,60,105,62,52,60,47,105,62,53,60,47,112,62]⟩,false),(qD++⟨#[60,98,62,49,60,112,62,50,60,47,98,62,51,60,47,112,62]⟩,⟨#[60,98,62,49,60,47,98,62,60,112,62,60,98,62,50,60,47,98,62,51,60,47,112,62]⟩,false),(qD++⟨#[60,116,97,98,108,101,62,60,98,62,60,116,114,62,60,116,100,62,97,97,97,60,47,116,100,62,60,47,116,114,62,98,98,98,60,47,116,97,98,108,101,62,99,99,99]⟩,⟨#[60,98,62,60,47,98,62,60,98,62,98,98,98,60,47,98,62,60,116,97,98,108,101,62,60,116,98,111,100,121,62,60,116,114,62,60,116,100,62,97,97,97,60,47,116,100,62,60,47,116,114,62,60,47,116,98,111,100,121,62,60,47,116,97,98,108,101,62,60,98,62,99,99,99,60,47,98,62]⟩,false),(qD++⟨#[60,112,62,60,98,32,99,61,120,62,60,98,32,99,61,120,62,60,98,62,60,98,32,99,61,120,62,60,98,32,99,61,120,62,60,98,62,88,10,60,112,62,88,10,60,112,62,60,98,62,60,98,32,99,61,120,62,60,98,62,88,10,60,112,62,60,47,98,62,60,47,98,62,60,47,98,62,60,47,98,62,60,47,98,62,60,47,98,62,88]⟩,⟨#[60,112,62,60,98,32,99,61,34,120,34,62,60,98,32,99,61,34,120,34,62,60,98,62,60,98,32,99,61,34,120,34,62,60,98,32,99,61,34,120,34,62,60,98,62,88,10,60,47,98,62,60,47,98,62,60,47,98,62,60,47,98,62,60,47,98,62,60,47,98,62,60,47,112,62,60,112,62,60,98,32,99,61,34,120,34,62,60,98,62,60,98,32,99,61,34,120,34,62,60,98,32,99,61,34,120,34,62,60,98,62,88,10,60,47,98,62,60,47,98,62,60,47,98,62,60,47,98,62,60,47,98,62,60,47,112,62,60,112,62,60,98,32,99,61,34,120,34,62,60,98,62,60,98,32,99,61,34,120,34,62,60,98,32,99,61,34,120,34,62,60,98,62,60,98,62,60,98,32,99,61,34,120,34,62,60,98,62,88,10,60,47,98,62,60,47,98,62,60,47,98,62,60,47,98,62,60,47,98,62,60,47,98,62,60,47,98,62,60,47,98,62,60,47,112,62,60,112,62,88,60,47,112,62]⟩,false),(qD++⟨#[73,39,109,32,38,110,111,116,105,116,59,32,73,32,116,101,108,108,32,121,111,117,44,32,73,39,109,32,38,110,111,116,105,110,59,32,73,32,116,101,108,108,32,121,111,117]⟩,⟨#[73,39,109,32,194,172,105,116,59,32,73,32,116,101,108,108,32,121,111,117,44,32,73,39,109,32,226,136,137,32,73,32,116,101,108,108,32,121,111,117]⟩,false),(qD++⟨#[60,115,112,97,110,32,97,61,34,38,110,111,116,105,116,59,34,32,98,61,39,38,110,111,116,59,39,32,99,61,38,97,109,112,62]⟩,⟨#[60,115,112,97,110,32,97,61,34,38,97,109,112,59,110,111,116,105,116,59,34,32,98,61,34,194,172,34,32,99,61,34,38,97,109,112,59,34,62,60,47,115,112,97,110,62]⟩,false),(⟨#[]⟩,⟨#[60,104,116,109,108,62,60,104,101,97,100,62,60,47,104,101,97,100,62,60,98,111,100,121,62,60,47,98,111,100,121,62,60,47,104,116,109,108,62]⟩,true),(⟨#[60,33,45,45,97,45,45,62,60,33,68,79,67,84,89,80,69,32,104,116,109,108,62,60,33,45,45,98,45,45,62,60,104,116,109,108,32,120,62,60,33,45,45,99,45,45,62,60,104,101,97,100,62,60,33,45,45,100,45,45,62,60,47,104,101,97,100,62,60,33,45,45,101,45,45,62,60,98,111,100,121,62,60,33,45,45,102,45,45,62,60,47,98,111,100,121,62,60,33,45,45,103,45,45,62,60,47,104,116,109,108,62,60,33,45,45,104,45,45,62]⟩,⟨#[60,33,45,45,97,45,45,62,60,33,68,79,67,84,89,80,69,32,104,116,109,108,62,60,33,45,45,98,45,45,62,60,104,116,109,108,32,120,61,34,34,62,60,33,45,45,99,45,45,62,60,104,101,97,100,62,60,33,45,45,100,45,45,62,60,47,104,101,97,100,62,60,33,45,45,101,45,45,62,60,98,111,100,121,62,60,33,45,45,102,45,45,62,60,47,98,111,100,121,62,60,33,45,45,103,45,45,62,60,47,104,116,109,108,62,60,33,45,45,104,45,45,62]⟩,true),(⟨#[120,60,116,105,116,108,101,62,97,38,108,116,59,60,98,62,60,47,116,105,116,108,101,62,121]⟩,⟨#[60,104,116,109,108,62,60,104,101,97,100,62,60,47,104,101,97,100,62,60,98,111,100,121,62,120,60,116,105,116,108,101,62,97,38,108,116,59,38,108,116,59,98,38,103,116,59,60,47,116,105,116,108,101,62,121,60,47,98,111,100,121,62,60,47,104,116,109,108,62]⟩,true),(⟨#[60,115,116,121,108,101,62,97,38,108,116,59,60,98,62,60,47,115,116,121,108,101,62,121]⟩,⟨#[60,104,116,109,108,62,60,104,101,97,100,62,60,115,116,121,108,101,62,97,38,108,116,59,60,98,62,60,47,115,116,121,108,101,62,60,47,104,101,97,100,62,60,98,111,100,121,62,121,60,47,98,111,100,121,62,60,47,104,116,109,108,62]⟩,true),(qD++⟨#[60,97,32,120,61,49,62,97,60,97,32,120,61,50,62,98]⟩,⟨#[60,97,32,120,61,34,49,34,62,97,60,47,97,62,60,97,32,120,61,34,50,34,62,98,60,47,97,62]⟩,false),(qD++⟨#[60,97,62,49,60,100,105,118,62,50,60,97,62,51]⟩,⟨#[60,97,62,49,60,47,97,62,60,100,105,118,62,60,97,62,50,60,47,97,62,60,97,62,51,60,47,97,62,60,47,100,105,118,62]⟩,false),(qD++⟨#[97,60,116,97,98,108,101,62,98,60,116,114,62,99,60,116,100,62,100,60,47,116,97,98,108,101,62,101]⟩,⟨#[97,98,99,60,116,97,98,108,101,62,60,116,98,111,100,121,62,60,116,114,62,60,116,100,62,100,60,47,116,100,62,60,47,116,114,62,60,47,116,98,111,100,121,62,60,47,116,97,98,108,101,62,101]⟩,false),(qD++⟨#[60,116,97,98,108,101,62,32,60,116,114,62,32,60,116,100,62,32,120]⟩,⟨#[60,116,97,98,108,101,62,32,60,116,98,111,100,121,62,60,116,114,62,32,60,116,100,62,32,120,60,47,116,100,62,60,47,116,114,62,60,47,116,98,111,100,121,62,60,47,116,97,98,108,101,62]⟩,false),(qD++⟨#[60,112,62,97,60,116,97,98,108,101,62]⟩,⟨#[60,112,62,97,60,47,112,62,60,116,97,98,108,101,62,60,47,116,97,98,108,101,62]⟩,false),(⟨#[60,112,62,97,60,116,97,98,108,101,62]⟩,⟨#[60,112,62,97,60,116,97,98,108,101,62,60,47,116,97,98,108,101,62,60,47,112,62]⟩,false),(qD++⟨#[60,116,97,98,108,101,62,60,99,111,108,62,60,99,111,108,62,60,116,114,62]⟩,⟨#[60,116,97,98,108,101,62,60,99,111,108,103,114,111,117,112,62,60,99,111,108,62,60,99,111,108,62,60,47,99,111,108,103,114,111,117,112,62,60,116,98,111,100,121,62,60,116,114,62,60,47,116,114,62,60,47,116,98,111,100,121,62,60,47,116,97,98,108,101,62]⟩,false),(qD++⟨#[60,116,97,98,108,101,62,60,99,97,112,116,105,111,110,62,97,60,116,114,62,60,116,104,62,98]⟩,⟨#[60,116,97,98,108,101,62,60,99,97,112,116,105,111,110,62,97,60,47,99,97,112,116,105,111,110,62,60,116,98,111,100,121,62,60,116,114,62,60,116,104,62,98,60,47,116,104,62,60,47,116,114,62,60,47,116,98,111,100,121,62,60,47,116,97,98,108,101,62]⟩,false),(qD++⟨#[60,116,97,98,108,101,62,60,116,100,62,97,60,116,97,98,108,101,62,60,116,100,62,98,60,47,116,97,98,108,101,62,99]⟩,⟨#[60,116,97,98,108,101,62,60,116,98,111,100,121,62,60,116,114,62,60,116,100,62,97,60,116,97,98,108,101,62,60,116,98,111,100,121,62,60,116,114,62,60,116,100,62,98,60,47,116,100,62,60,47,116,114,62,60,47,116,98,111,100,121,62,60,47,116,97,98,108,101,62,99,60,47,116,100,62,60,47,116,114,62,60,47,116,98,111,100,121,62,60,47,116,97,98,108,101,62]⟩,false),(qD++⟨#[120,60,47,112,62,97,60,47,98,114,62,98]⟩,⟨#[120,60,112,62,60,47,112,62,97,60,98,114,62,98]⟩,false),(qD++⟨#[60,117,108,62,60,108,105,62,97,60,108,105,62,98,60,117,108,62,60,108,105,62,99,60,47,117,108,62,60,108,105,62,100]⟩,⟨#[60,117,108,62,60,108,105,62,97,60,47,108,105,62,60,108,105,62,98,60,117,108,62,60,108,105,62,99,60,47,108,105,62,60,47,117,108,62,60,47,108,105,62,60,108,105,62,100,60,47,108,105,62,60,47,117,108,62]⟩,false),(qD++⟨#[60,100,108,62,60,100,116,62,97,60,100,100,62,98,60,100,116,62,99]⟩,⟨#[60,100,108,62,60,100,116,62,97,60,47,100,116,62,60,100,100,62,98,60,47,100,100,62,60,100,116,62,99,60,47,100,116,62,60,47,100,108,62]⟩,false),(qD++⟨#[60,104,49,62,97,60,104,50,62,98,60,47,104,49,62,99]⟩,⟨#[60,104,49,62,97,60,47,104,49,62,60,104,50,62,98,60,47,104,50,62,99]⟩,false),(qD++⟨#[60,98,117,116,116,111,110,62,97,60,98,117,116,116,111,110,62,98]⟩,⟨#[60,98,117,116,116,111,110,62,97,60,47,98,117,116,116,111,110,62,60,98,117,116,116,111,110,62,98,60,47,98,117,116,116,111,110,62]⟩,false),(qD++⟨#[60,110,111,98,114,62,97,60,110,111,98,114,62,98]⟩,⟨#[60,110,111,98,114,62,97,60,47,110,111,98,114,62,60,110,111,98,114,62,98,60,47,110,111,98,114,62]⟩,false),(qD++⟨#[60,112,114,101,62,10,10,120]⟩,⟨#[60,112,114,101,62,10,120,60,47,112,114,101,62]⟩,false),(qD++⟨#[60,116,101,120,116,97,114,101,97,62,10,120,60,47,112,62,60,47,116,101,120,116,97,114,101,97,62,121]⟩,⟨#[60,116,101,120,116,97,114,101,97,62,120,38,108,116,59,47,112,38,103,116,59,60,47,116,101,120,116,97,114,101,97,62,121]⟩,false),(qD++⟨#[60,102,111,114,109,32,97,62,60,102,111,114,109,32,98,62,120,60,47,102,111,114,109,62,121]⟩,⟨#[60,102,111,114,109,32,97,61,34,34,62,120,60,47,102,111,114,109,62,121]⟩,false),(qD++⟨#[60,102,111,114,109,62,60,100,105,118,62,120,60,47,102,111,114,109,62,121,60,47,100,105,118,62,122]⟩,⟨#[60,102,111,114,109,62,60,100,105,118,62,120,121,60,47,100,105,118,62,60,47,102,111,114,109,62,122]⟩,false),(qD++⟨#[60,115,101,108,101,99,116,62,60,111,112,116,105,111,110,62,97,60,111,112,116,105,111,110,62,98,60,111,112,116,103,114,111,117,112,62,99,60,98,62,100,60,47,115,101,108,101,99,116,62,101]⟩,⟨#[60,115,101,108,101,99,116,62,60,111,112,116,105,111,110,62,97,60,47,111,112,116,105,111,110,62,60,111,112,116,105,111,110,62,98,60,47,111,112,116,105,111,110,62,60,111,112,116,103,114,111,117,112,62,99,100,60,47,111,112,116,103,114,111,117,112,62,60,47,115,101,108,101,99,116,62,101]⟩,false),(qD++⟨#[60,116,97,98,108,101,62,60,116,100,62,60,115,101,108,101,99,116,62,60,111,112,116,105,111,110,62,97,60,116,114,62,60,116,100,62,98]⟩,⟨#[60,116,97,98,108,101,62,60,116,98,111,100,121,62,60,116,114,62,60,116,100,62,60,115,101,108,101,99,116,62,60,111,112,116,105,111,110,62,97,60,47,111,112,116,105,111,110,62,60,47,115,101,108,101,99,116,62,60,47,116,100,62,60,47,116,114,62,60,116,114,62,60,116,100,62,98,60,47,116,100,62,60,47,116,114,62,60,47,116,98,111,100,121,62,60,47,116,97,98,108,101,62]⟩,false),(qD++⟨#[60,98,62,60,111,98,106,101,99,116,62,120,60,47,98,62,121,60,47,111,98,106,101,99,116,62,122]⟩,⟨#[60,98,62,60,111,98,106,101,99,116,62,120,121,60,47,111,98,106,101,99,116,62,122,60,47,98,62]⟩,false),(⟨#[60,98,111,100,121,32,97,61,49,62,60,98,111,100,121,32,97,61,50,32,98,61,51,62]⟩,⟨#[60,104,116,109,108,62,60,104,101,97,100,62,60,47,104,101,97,100,62,60,98,111,100,121,32,97,61,34,49,34,32,98,61,34,51,34,62,60,47,98,111,100,121,62,60,47,104,116,109,108,62]⟩,true),(qD++⟨#[97,60,33,45,45,98,45,45,33,62,99,60,33,100,62,101,60,47,49,62,102,60,63,103,62,104,60,33,45,45,62,105,60,33,45,45,45,62,106]⟩,⟨#[97,60,33,45,45,98,45,45,62,99,60,33,45,45,100,45,45,62,101,60,33,45,45,49,45,45,62,102,60,33,45,45,63,103,45,45,62,104,60,33,45,45,45,45,62,105,60,33,45,45,45,45,62,106]⟩,false),(qD++⟨#[97,60,47,98,111,100,121,62,32,98,60,47,104,116,109,108,62,99]⟩,⟨#[97,32,98,99]⟩,false),(qD++⟨#[60,112,62,97,60,100,105,118,62,98,60,47,112,62,99]⟩,⟨#[60,112,62,97,60,47,112,62,60,100,105,118,62,98,60,112,62,60,47,112,62,99,60,47,100,105,118,62]⟩,false),(qD++⟨#[60,116,97,98,108,101,62,60,105,110,112,117,116,32,116,121,112,101,61,104,105,100,100,101,110,62,60,105,110,112,117,116,62]⟩,⟨#[60,105,110,112,117,116,62,60,116,97,98,108,101,62,60,105,110,112,117,116,32,116,121,112,101,61,34,104,105,100,100,101,110,34,62,60,47,116,97,98,108,101,62]⟩,false),(qD++⟨#[97,13,10,98,13,99,0,100]⟩,⟨#[97,10,98,10,99,100]⟩,false),(qD++⟨#[60,98,62,49,60,105,62,50,60,112,62,51,60,47,98,62,52]⟩,⟨#[60,98,62,49,60,105,62,50,60,47,105,62,60,47,98,62,60,105,62,60,112,62,60,98,62,51,60,47,98,62,52,60,47,112,62,60,47,105,62]⟩,false),(qD++⟨#[38,35,54,53,59,38,35,120,52,50,59,38,35,48,59,38,35,49,50,56,59,38,35,120,68,56,48,48,59,38,35,120,59,38,35,59,38]⟩,⟨#[65,66,239,191,189,226,130,172,239,191,189,38,97,109,112,59,35,120,59,38,97,109,112,59,35,59,38,97,109,112,59]⟩,false)]
def hdB:gn:=⟨#[60,104,116,109,108,62,60,104,101,97,100,62,60,47,104,101,97,100,62,60,98,111,100,121,62]⟩
def tlB:gn:=⟨#[60,47,98,111,100,121,62,60,47,104,116,109,108,62]⟩
def XH (p:gn×gn×Bool):gn:=if p.2.2 then p.2.1 else (if 14 < p.1.size/\(p.1.extract 0 15).toList=qD.toList then qD++hdB else hdB)++p.2.1++tlB
def zQ:List (gn×gn×Bool)->List gG
 |[]=>[]
 |p::l=> .string p.1:: .string p.2.1:: .bool p.2.2::zQ l
def ac4 (w:gr):Calls prog 5 #[] w λe w'=>e=ir (nI w.heap.size 40 40)/\w'=w.alloc (gy (zQ knL).toArray 34):=by
 go_enter func5,ntmps5;go_wp2;go_ret;exact⟨rfl,rfl⟩
def ptr (x:jb):Option Addr:=x.map λk=>⟨k,0,none⟩
abbrev jY (x:jb):gG:= .pointer (ptr x)
def io (xs:kL) (n:Int):jb:=if 0<=n/\n < xs.length then xs.getD n.toNat none else none
structure wF (base b j:Nat) (tB:TypeId) (C:jE) (v:gG) (xs:kL) (w:gr):Prop where
 ik:w.heap[b]?=some (gy C tB)
 cell:C[j]?=some v
 row:w.ownsRow base 65 1 v xs.length (xs.map jY)
 ne:tB≠65
 le:xs.length<=4096
def wF.at (h:wF base b j tB C v xs w):w.cell? ⟨b,j,none⟩=some v:=by rw[fO h.ik];exact h.cell
def abX (base b j:Nat) (tB:TypeId) (C:jE) (v:gG) (xs:kL) (w:gr) (h:wF base b j tB C v xs w):
  Calls prog 259 #[lK b j] w λe w'=>e=ir (ga xs.length)/\w'=w:=by
 have d:=h.at;obtain⟨ao,cap,rfl⟩:=gv h.row;have H:=fN h;clear h;go_enter func259,ntmps259;go_wp2;go_ret;simp
theorem Ya (base b j:Nat) (tB:TypeId) (C:jE) (v:gG) (xs:kL) (n:Int) (w:gr) (h:wF base b j tB C v xs w):
  Calls prog 238 #[lK b j,ga n] w λe w'=>e=ir (jY (io xs n))/\w'=w:=by
 have D:=h.at;have y:=h.le;by_cases J:n < 0
 .obtain⟨ao,cap,rfl⟩:=gv h.row;have m:io xs n=none:=by unfold io;rw[gI (by omega)]
  rw[m];go_enter func238,ntmps238;go_wp2;go_ret;exact⟨rfl,rfl⟩
 by_cases N:(xs.length:Int)<=n
 .obtain⟨ao,cap,rfl⟩:=gv h.row;have m:io xs n=none:=by unfold io;rw[gI (by omega)]
  rw[m];go_enter func238,ntmps238;go_wp2;go_ret;exact⟨rfl,rfl⟩
 obtain⟨k,rfl⟩:∃k:Nat,n=k:=⟨n.toNat,by omega⟩;have q:k < xs.length:=by omega
 have m:io xs k=xs[k]:=by unfold io;rw[gN (by omega)];simp[q]
 rw[m];rcases h.row.2 with⟨_,I⟩|⟨g,cap,o,rfl,_,l,A,_,_,d⟩
 .omega
 have H:w.cell? ⟨g,k,none⟩=some (jY xs[k]):=by
  rw[fO l];have:(o.toList.take (xs.length*1))[k]?=some (jY xs[k]):=by rw[d];simp[q]
  rw[DS]at this;split at this
  .grind
  .omega
 go_enter func238,ntmps238;go_wp2;go_ret;simp
def posOf (xs:kL) (x:jb):Int:=if xs.idxOf x < xs.length then (xs.idxOf x:Int)else -1
def td (w:gr) (x:jb):Prop:=∀k,x=some k->∃c,w.heap[k]?=some (gy c 136)
def Tu:(prog.info? 136).map (·.size)=some 4:=by kernel_rfl
def Hn:prog.underlying 65=some (.pointer (prog.pointee 65)):=by kernel_rfl
theorem Bx {y : jb} (m:td w x) (n:td w y):
  (binOp .eql 65 (.pointer (ptr x)) (.pointer (ptr y))).run prog w= .ok (.bool (decide (x=y))) w:=by
 obtain⟨j,g,l⟩:=Option.map_eq_some_iff.1 Tu;cases x with
 |none=>
  cases y with
  |none=>exact run_eql_pointer_nil (P:=prog) w 65 none Hn
  |some b=>
   have h:∀d:Nat,(Op.equalIn (d+1) 65 (.pointer none) (gF b)).run prog w= .ok false w:=λd=>by
    simp[Op.equalIn,qv underlying65]
   show(binOp .eql 65 (.pointer none) (gF b)).run prog w= .ok (.bool false) w;simp only[binOp];simp[Op.equal,Op.maxDepth,h 9999]
 |some a=>
  cases y with
  |none=>exact run_eql_pointer_nil (P:=prog) w 65 (some ⟨a,0,none⟩) Hn
  |some b=>
   by_cases h:a=b
   .subst h;rw[uR rfl];exact run_eql_ptr_same (P:=prog) w (⟨a,0,none⟩:Addr) underlying65 g
   .have⟨ca,ha⟩:=m a rfl;have⟨cb,hb⟩:=n b rfl;rw[wQ (by grind)];exact run_eql_ptr_other (P:=prog) w (a:=⟨a,0,none⟩) (b:=⟨b,0,none⟩) underlying65 g (by omega) (by simp) ha hb
def acg (v:gG) (xs:kL) (w:gr):Prop:=((xs=[]/\∃ao cap,v= .slice ao 0 cap)\/∃g cap,v=nI g xs.length cap/\∀k,(hk:k < xs.length)->w.cell? ⟨g,k,none⟩=some (jY xs[k]))/\∀x∈xs,td w x
theorem Z6 (q:w.ownsRow base 65 1 v xs.length (xs.map jY)) (m:∀x∈xs,td w x):acg v xs w:=by
 refine⟨?_,m⟩;rcases q.2 with⟨rfl,y⟩|⟨g,cap,l,rfl,_,h,o,_,_,d⟩
 .grind
 .refine .inr ⟨g,cap,rfl,λk n=>?_⟩;rw[fO h];have:(l.toList.take (xs.length*1))[k]?=some (jY xs[k]):=by rw[d];simp[n]
  grind
theorem YD (l:k < xs.length) (q:xs[k]=x) (g:∀j,j < k->xs[j]?≠some x):posOf xs x=k:=by
 have y:xs.idxOf x=k:=by
  have o:x∈xs:=q▸ti l;have n:=List.idxOf_lt_length_iff.2 o;have h:¬xs.idxOf x < k:=λd=>g _ d (by grind);have m:¬k < xs.idxOf x:=λd=>by
   have:=List.not_of_lt_findIdx (p:=(·==x)) (xs:=xs) (i:=k) (by simpa [List.idxOf]using d);grind
  omega
 grind[posOf]
theorem YE (d:∀j,j < xs.length->xs[j]?≠some x):posOf xs x= -1:=by
 grind[posOf]
theorem Ei (v:gG) (xs:kL) (x:jb) (w:gr) (h:acg v xs w) (n:td w x) (Y:xs.length<=4096):
  Calls prog 262 #[v,jY x] w λe w'=>e=ir (ga (posOf xs x))/\w'=w:=by
 rcases h with⟨⟨rfl,ao,cap,rfl⟩|⟨g,cap,rfl,A⟩,I⟩
 .go_enter func262,ntmps262;go_wp2;refine Au 1 ?_;rw[rF];go_wp2;go_ret;simp[posOf]
 .have H:=A;have N:=n;clear A n;have m:∀k,(o:k < xs.length)->(binOp .eql 65 (.pointer (ptr x)) (.pointer (ptr xs[k]))).run prog w= .ok (.bool (decide (x=xs[k]))) w:=λk o=>Bx N (I _ (ti o));have J:=fN m;clear m;go_enter func262,ntmps262;go_wp2
  go_loopw [8] (λi wr=>∃k:Nat,k<=xs.length/\i=ga k/\wr=w/\∀j,j < k->xs[j]?≠some x) (λi _=>xs.length - (intOf i).toNat)
  case atStart=>grind
  case round=>
   obtain⟨k,o,rfl,rfl,y⟩:=hrel;by_cases d:k < xs.length
   .have Z:=H k d;have D:=J k d;by_cases l:x=xs[k]
    .have q:=fN (YD d l.symm y);rw[uR l]at D;clear l;go_wp2;go_ret;exact⟨by rw[q.out];rfl,rfl⟩
    .rw[wQ l]at D;have U:=l;clear l;go_wp2;go_roundw
     case rel=>
      refine⟨k+1,by omega,by go_num,by simp,λj V=>?_⟩;grind
     case measure=>simp[intOf];omega
   .have q:=fN (YE (xs:=xs) (x:=x) (λj V=>y j (by omega)));go_wp2;go_ret;exact⟨by rw[q.out];rfl,rfl⟩
def jj:jE->Nat->List gG->jE
 |c,_,[]=>c
 |c,o,v::r=>jj (c.setIfInBounds o v) (o+1) r
def jo:∀(d:List gG) (c:jE) (o:Nat),(jj c o d).size=c.size
 |[],_,_=>rfl
 |v::r,c,o=>by rw[jj,jo r];simp
theorem ke:∀(d:List gG) (c:jE) (o:Nat),o+d.length<=c.size->(jj c o d).toList=c.toList.take o++d++c.toList.drop (o+d.length)
 |[],c,o,_=>by simp[jj]
 |v::r,c,o,h=>by
  have g:o+1+r.length<=(c.setIfInBounds o v).size:=by simp at h|-;omega
  rw[jj,ke r _ _ g];simp only[sW]at h;have e1:(c.setIfInBounds o v).toList=c.toList.set o v:=by simp
  rw[e1];have l:o < c.toList.length:=by simp;omega
  rw[Ze (by grind),List.take_set_of_le (gW _),List.drop_set_of_lt (by omega)];grind
theorem j5:∀(d:List gG) (w:gr) (g:Nat) (c:jE) (t:TypeId) (m:Nat×Nat) (o:Nat),w.heap[g]?=some (.cells c t m)->(w.setCells g o d).heap[g]?=some (.cells (jj c o d) t m)
 |[],_,_,_,_,_,_,h=>h
 |v::r,w,g,c,t,m,o,h=>by
  rw[World.setCells,jj];refine j5 r _ g _ t m (o+1) ?_;have l:=je h;rw[wu l]at h;have n:=jz h;simp only[World.setCell];grind
def Kept.setCells (d:b∈S\/a.heap.size<=b):∀(g:List gG) (o:Nat) {w:gr},Kept S a w->Kept S a (w.setCells b o g)
 |[],_,_,h=>h
 |v::r,o,w,h=>by rw[World.setCells];exact Kept.setCells d r (o+1) (h.setCell (p:=⟨b,o,none⟩) d v)
def aah:(prog.info? 65).map (λi=>(i.zero,i.size,i.bytes))=some (some (.pointer none),1,8):=by kernel_rfl
theorem Xk {l : List gG} {n : Nat} (d:i < j) (g:j<=n) (h:n<=l.length):
  ((l.take i++(l.take n).drop j++l.drop (i+(n - j))).take (n - (j - i)))=(l.take n).take i++(l.take n).drop j:=by
 have e:(l.take i++(l.take n).drop j).length=n - (j - i):=by simp;omega
 grind
theorem acC (g cap i j n:Nat) (m:jE) (w:gr) (q:w.heap[g]?=some (gy m 65)) (a8:n<=cap) (a2:m.size=cap) (hi:i < j) (hj:j<=n) (a7:n<=4096)
  (h1:∀u∈m.toList.take n,u.oneCell'=true):
  Calls prog 263 #[nI g n cap,ga i,ga j] w λe w'=>e=ir (nI g (n - (j - i)) cap)/\
   ∃y,w'.heap[g]?=some (gy y 65)/\y.size=cap/\y.toList.take (n - (j - i))=(m.toList.take n).take i++(m.toList.take n).drop j/\Kept [g] w w':=by
 obtain⟨i0,Z,a9,a3,aa⟩:=tj aah;obtain⟨d,o⟩:∃d,d=(m.toList.take n).drop j:=⟨_,rfl⟩;have D:d.length=n - j:=by rw[o];simp;omega
 have U:∀t u,d[t]?=some u->m[j+t]?=some u:=by
  intro t u J;rw[o,Uj,DS]at J;split at J
  .grind
  .cases J
 obtain⟨A,hA,V⟩:∃A:Addr,(if cap=j then some (⟨g,0,none⟩:Addr)else some ⟨g,j,none⟩)=some A/\Hid (∀t u,d[t]?=some u->w.drew.cell? (A.add t)=some u):=by
  by_cases h:cap=j
  .refine⟨⟨g,0,none⟩,by simp[h],λt u J=>?_⟩;grind
  .refine⟨⟨g,j,none⟩,by simp[h],λt u J=>?_⟩;rw[show(⟨g,j,none⟩:Addr).add t=⟨g,j+t,none⟩from by unfold Addr.add;simp];exact(fO q _).trans (U t u J)
 have s1:Hid (d.length=(n - j)*1):=by rw[DT];exact D
 have s2:Hid (∀u∈d,u.oneCell'=true):=λu J=>h1 u (JD (o▸J));have s3:Hid (∀t,t < d.length->(w.drew.cell? ⟨g,0+i*1+t,none⟩).isSome=true/\w.drew.frozen? ⟨g,0+i*1+t,none⟩=false):=by
  intro t ht;rw[D]at ht;refine⟨?_,gu q _⟩;show(w.cell? _).isSome=true;rw[fO q,wu (by omega)];rfl
 obtain⟨I,H⟩:∃I,I=w.drew.setCells g (0+i*1) d:=⟨_,rfl⟩;have N:I.heap[g]?=some (gy (jj m (0+i*1) d) 65):=by rw[H];exact j5 d w.drew g m _ _ _ q
 have Y:Kept [g] w I:=by rw[H];exact Kept.setCells (.inl (by simp)) d _ (Kept.refl _ _).drew
 have a4:∀ty,(Builtin.clear_ #[170] ty #[.slice (some ⟨g,i+(n - j),none⟩) (n - (i+(n - j))) (cap - (i+(n - j)))]).run prog I= .ok (.tuple #[]) (I.setCells g (i+(n - j)) (List.replicate (n - (i+(n - j))) (.pointer none))):=
  λty=>Lib.run_clear_slice I _ _ ty _ underlying170 Tryz.zeroValue65 rfl rfl g (i+(n - j)) _ _ (by omega) (λt ht=>by rw[fO N,wu (by rw[jo];omega)];rfl) (λt ht=>gu N _)
 have HB:=j5 (List.replicate (n - (i+(n - j))) (Value.pointer none)) I g _ _ _ (i+(n - j)) N;have HK:=Kept.setCells (S:=[g]) (a:=w) (b:=g) (.inl (by simp)) (List.replicate (n - (i+(n - j))) (Value.pointer none)) (i+(n - j)) Y;have a0:(jj m (0+i*1) d).toList=m.toList.take (0+i*1)++d++m.toList.drop (0+i*1+d.length):=ke _ _ _ (by omega);have a1:=ke (List.replicate (n - (i+(n - j))) (Value.pointer none)) (jj m (0+i*1) d) (i+(n - j)) (by rw[jo];grind);have HF:(jj (jj m (0+i*1) d) (i+(n - j)) (List.replicate (n - (i+(n - j))) (Value.pointer none))).toList.take (n - (j - i))=(m.toList.take n).take i++(m.toList.take n).drop j:=by
  rw[a1,uS,JF (by simp[jo];omega),a0,D,o];rw[LV,QN (by omega)];have:=Xk (l:=m.toList) hi hj (by grind)
  simpa using this
 have HW:=fN H;have a5:i<=cap:=by omega
 have a6:j<=cap:=by omega
 clear H;go_enter func263,ntmps263;go_wp2_with fail
 go_region_law (refine step_append_room rfl (.tmp 22) (.tmp 25) 170 rfl 65 i0 1 underlying170 Z a3 g 0 i cap (by simp[Act.eval,Act.put]) A (n - j) (cap - j) d (by simp[Act.eval,Act.put]) s1 V s2 (by omega) s3 ?_;rw[<-HW.out])
 go_wp2;go_ret;exact⟨by rw[show n - (j - i)=i+(n - j) by omega];rfl,_,HB,by rw[jo,jo];exact a2,HF,HK⟩
def acO:(prog.info? 65).map (λi=>(i.zero,i.size,i.bytes))=some (some (.pointer none),1,8):=by kernel_rfl
def IK (T S F O B:Nat) (z:gG):Prop:=(T=65/\S=170/\F=377/\O=379/\B=8/\z= .pointer none)\/(T=138/\S=134/\F=256/\O=309/\B=16/\z= .nilIface)
section
variable {T S F O B:Nat} {z:gG}
def IK.XR (K:IK T S F O B z):(prog.info? T).map (λi=>(i.zero,i.size,i.bytes))=some (some z,1,B)/\prog.underlying S=some (.slice T)/\(prog.info? T).map (·.size)=some 1/\(∀w,(sizeOf T).run prog w= .ok 1 w)/\∀a w,(callFunc O a).run prog w=((Extern.SlicesOverlaps.overlaps #[S,S] #[4] a).run prog w).andThen λv w'=> .ok (.value v) w':=by
 rcases K with⟨rfl,rfl,rfl,rfl,rfl,rfl⟩|⟨rfl,rfl,rfl,rfl,rfl,rfl⟩
 .exact⟨by kernel_rfl,underlying170,by kernel_rfl,Tryz.sizeOf65,Uk func379 (by kernel_rfl) (by kernel_rfl) (by kernel_rfl) (by kernel_rfl)⟩
 .exact⟨by kernel_rfl,underlying134,by kernel_rfl,Tryz.sizeOf138,Uk func309 (by kernel_rfl) (by kernel_rfl) (by kernel_rfl) (by kernel_rfl)⟩
def Wx (T base:Nat) (v:gG) (n i:Nat) (xs:List gG) (u:gG) (w:gr) (e:Ending) (w':gr):Prop:=
 ∃d,e=ir d/\w'.ownsRow base T 1 d (n+1) (xs.take i++[u]++xs.drop i)/\Kept v.ownBlock.toList w w'/\(d.ownBlock=v.ownBlock\/∀k,d.ownBlock=some k->w.heap.size<=k)
theorem Vh (K:IK T S F O B z) (base n A:Nat) (v u:gG) (xs:List gG) (w:gr) (h:w.ownsRow base T 1 v n xs) (Z:w.heap[A]?=some (gy #[u] T)) (hu:u.oneCell'=true) (a0:n<=1048576) (U:base<=w.heap.size):
  Calls prog F #[v,ga n,nI A 1 1] w (Wx T base v n n xs u w):=by
 obtain⟨i0,V,o,q,y⟩:=tj K.XR.1;have J:=K.XR.2.1;obtain⟨ao,cap,rfl⟩:=gv h;have Y:xs.length=n:=by have:=h.1;omega
 have N:=fN Z;clear Z;rcases K with⟨rfl,rfl,rfl,rfl,rfl,rfl⟩|⟨rfl,rfl,rfl,rfl,rfl,rfl⟩
 all_goals
  by_cases H:cap=n;subst H;have D:=fN h;clear h
  first|go_enter func377,ntmps377|go_enter func256,ntmps256
  go_wp2_with (at_builtin;refine ij _ rfl _ _ _ rfl base _ i0 _ 1 _ J V o q y rfl (by decide) (.slice ao cap cap) cap xs rfl D ⟨A,0,none⟩ 1 1 [u] rfl rfl (λj x m=>by rw[js,fO N.out,<-m];simp) (λx m=>by grind) (by unfold maxLen;omega) (by omega) U ?_;intro v' w2 g d l);have I:=(Kept.refl (Value.slice ao cap cap).ownBlock.toList w).grown d (λk hk=> .inl (by grind))
  rotate_left
  have D:=fN h;clear h
  first|go_enter func377,ntmps377|go_enter func256,ntmps256
  go_wp2_with (at_builtin;refine ij _ rfl _ _ _ rfl base _ i0 _ 1 _ J V o q y rfl (by decide) (.slice ao n cap) n xs rfl D ⟨A,0,none⟩ 1 1 [u] rfl rfl (λj x m=>by rw[js,fO N.out,<-m];simp) (λx m=>by grind) (by unfold maxLen;omega) (by omega) U ?_;intro v' w2 g d l);have I:=(Kept.refl (Value.slice ao n cap).ownBlock.toList w).grown d (λk hk=> .inl (by grind))
  all_goals
   have HN:=g;have HF:=l;go_wp2;go_ret;refine⟨_,rfl,?_,I,HF⟩;rw[Av (by omega),F7 (by omega),DU];exact HN
theorem RX {l:List gG} {n i:Nat} {u:gG} {c:jE} (d:c.toList.take n=l) (o:n+1<=c.size) (m:i < n):
  (jj (jj c (i+1) (l.drop i)) i [u]).toList.take (n+1)=l.take i++[u]++l.drop i:=by
 have h:l.length=n:=by rw[<-d];simp;omega
 have g:=ke (l.drop i) c (i+1) (by grind);rw[ke [u] _ i (by rw[jo];grind),g];have e1:(c.toList.take (i+1)++l.drop i++c.toList.drop (i+1+(l.drop i).length)).take i=l.take i:=by
  rw[uS,JF (by grind),LV,QN (by omega),<-d,LV,QN (by omega)]
 have e2:(c.toList.take (i+1)++l.drop i++c.toList.drop (i+1+(l.drop i).length)).drop (i+[u].length)=l.drop i++c.toList.drop (i+1+(l.drop i).length):=by
  rw[uS,List.drop_append_of_le_length (by grind),F7 (by grind),sC]
 rw[e1,e2,<-uS,JF (by grind),Av (by grind)]
theorem O8 (K:IK T S F O B z) (base g cap n i q:Nat) (u:gG) (h:jE) (xs:List gG) (w:gr) (a1:base<=g) (d:w.heap[g]?=some (gy h T)) (H:h.toList.take n=xs) (a6:h.size=cap) (hm:cap<=maxLen)
  (a5:n+1<=cap) (hi:i < n) (Z:w.heap[q]?=some (gy #[u] T)) (a3:q≠g) (hu:u.oneCell'=true) (h1:∀x∈xs,x.oneCell'=true) (ad:n<=1048576):
  Calls prog F #[nI g n cap,ga i,nI q 1 1] w (Wx T base (nI g n cap) n i xs u w):=by
 have V:xs.length=n:=by rw[<-H];simp;omega
 obtain⟨_,HU,a0,HZ,HP⟩:=K.XR;have a4:∀lb cb,(callFunc O #[nI q 1 1,.slice (some ⟨g,i+1,none⟩) lb cb]).run prog w= .ok (.value (.bool false)) w:=λlb cb=>by
  rw[HP,Lib.run_overlaps_apart w S 4 T HU 1 HZ ⟨q,0,none⟩ ⟨g,i+1,none⟩ 1 1 lb cb a3 T T 1 cap (by simp[World.shape?,Z]) (by simp[World.shape?,d,a6]) (by omega) (gu Z 0) (gu Z 1)];rfl
 have Y:∀j,j < cap->(w.cell? ⟨g,j,none⟩).isSome=true:=λj y=>by rw[fO d,wu (by omega)];rfl
 have a2:∀j x,xs[j]?=some x->w.cell? ⟨g,j,none⟩=some x:=λj x y=>by
  rw[fO d];grind
 have ac:(xs.drop i).length=n - i:=by rw[List.length_drop,V]
 obtain⟨l,o⟩:∃l,l=w.drew.setCells g (i+1) (xs.drop i):=⟨_,rfl⟩;have N:∀I A sc,(Builtin.copy_ #[S,S] I #[.slice (some ⟨g,i+1,none⟩) (n - i) A,.slice (some ⟨g,i,none⟩) (n+1 - i) sc]).run prog w.drew= .ok (goInt (xs.drop i).length) l:=λI A sc=>by
  rw[o];exact Ul w.drew _ _ I T g (i+1) (n - i) A ⟨g,i,none⟩ (n+1 - i) sc (xs.drop i) HU a0 (by grind)
   (λj x y=>by rw[Addr.add_lit];simp_all)
   (λj y=>Y _ (by omega)) (λj y=>gu d _) (λx hx=>h1 x (JD hx))
 have m:l.heap[g]?=some (gy (jj h (i+1) (xs.drop i)) T):=by rw[o];exact j5 (xs.drop i) w.drew g h _ _ _ d
 have D:Kept [g] w l:=by rw[o];exact Kept.setCells (.inl (by simp)) _ _ (Kept.refl _ _).drew
 have J:l.heap[q]?=some (gy #[u] T):=D.at Z (by grind);have U:∀I A,(Builtin.copy_ #[S,S] I #[.slice (some ⟨g,i,none⟩) (n+1 - i) A,nI q 1 1]).run prog l= .ok (goInt 1) (l.setCells g i [u]):=λI A=>
  Ul l _ _ I T g i (n+1 - i) A ⟨q,0,none⟩ 1 1 [u] HU a0 (by grind)
   (λj x y=>by rw[js,fO J,<-y];simp)
   (λj y=>by rw[fO m,wu (by rw[jo];grind)];rfl) (λj y=>gu m _) (λx hx=>by grind)
 have HB:=j5 [u] l g _ _ _ i m;have HK:=Kept.setCells (S:=[g]) (a:=w) (b:=g) (.inl (by simp)) [u] i D;have HF:=RX (u:=u) H (by omega:n+1<=h.size) hi;clear m D o d Z J h1 Y a2 H;have af:IntKind.i64.wrap ((i:Int)+1)=(i:Int)+1:=by rw[IntKind.wrap_i64];omega
 have a7:(0:Int)<=(i:Int)+1:=by omega
 have a8:(i:Int)+1<=(n:Int)+1:=by omega
 have ae:((i:Int)+1).toNat=i+1:=by omega
 have a9:(i:Int)<=(n:Int)+1:=by omega
 have aa:¬(cap=i+1):=by omega
 have ab:¬(cap=i):=by omega
 rcases K with⟨rfl,rfl,rfl,rfl,rfl,rfl⟩|⟨rfl,rfl,rfl,rfl,rfl,rfl⟩
 all_goals
  first|go_enter func377,ntmps377|go_enter func256,ntmps256
  go_wp2_with (simp only[a4])
  go_region_law (refine step_copy_runI rfl _ _ _ _ rfl _ _ (by simp[Act.eval,Act.put]) (by simp[Act.eval,Act.put]) (N _ _ _) ?_)
  go_wp2_with (at_builtin;refine wpList_copy_runI _ rfl _ _ _ _ rfl _ _ rfl rfl (U _ _) ?_);go_ret;exact⟨_,rfl,⟨by grind,.inr ⟨g,cap,_,rfl,a1,HB,by omega,hm,by rw[jo,jo];omega,by grind⟩⟩,HK,.inl rfl⟩
theorem O7 {l:List gG} {n i:Nat} {u:gG} {R:jE} (m:l.length=n) (h:R.toList.take i=l.take i) (q:n+1<=R.size) (o:i < n):
  (jj (jj R i [u]) (i+1) (l.drop i)).toList.take (n+1)=l.take i++[u]++l.drop i:=by
 have g:=ke [u] R i (by grind);rw[ke (l.drop i) _ (i+1) (by grind[jj]),g,h];have d:∀X:List gG,(l.take i++[u]++X).take (i+1)=l.take i++[u]:=λX=>by grind
 rw[d,JF (by grind),Av (by grind)]
theorem RW (K:IK T S F O B z) (base g cap n i bv:Nat) (u:gG) (J:jE) (xs:List gG) (w:gr) (d:w.heap[g]?=some (gy J T)) (a5:J.toList.take n=xs) (ar:J.size=cap)
  (aq:n<=cap) (ad:cap < n+1) (hi:i < n) (hv:w.heap[bv]?=some (gy #[u] T)) (hu:u.oneCell'=true) (h1:∀x∈xs,x.oneCell'=true) (ap:n<=1048576) (hb:base<=w.heap.size):
  Calls prog F #[nI g n cap,ga i,nI bv 1 1] w (Wx T base (nI g n cap) n i xs u w):=by
 obtain⟨i0,ac,af,ag,a7⟩:=tj K.XR.1;obtain rfl:cap=n:=by omega
 have a4:xs.length=cap:=by rw[<-a5];simp;omega
 obtain⟨_,HU,a6,HZ,HP⟩:=K.XR;have an:=je d;have aw:=je hv;have a3:∀j x,xs[j]?=some x->w.cell? ⟨g,j,none⟩=some x:=λj x H=>by
  rw[fO d];grind
 have I:(Builtin.firstCells i0.size i (nI g i cap)).run prog w.drew= .ok (xs.take i).toArray w.drew:=by
  rw[ag];exact run_firstCells_some w.drew 1 i ⟨g,0,none⟩ i cap (xs.take i) (by grind) (λj x H=>by
   rw[js];rw[DS]at H;simp_all)
 obtain⟨G,hG⟩:∃G,G=grownCap w (cap+1) cap T:=⟨_,rfl⟩;obtain⟨R,hR⟩:∃R:jE,R=(xs.take i).toArray++Builtin.zeroCells z.cells (cap+1 - i)++Builtin.zeroCells z.cells (G - (cap+1)):=⟨_,rfl⟩;obtain⟨o,V⟩:∃o,o=w.drew.alloc (gy R T):=⟨_,rfl⟩;have ae:∀l,(Builtin.append_ #[S,3] l #[nI g i cap,ga ((cap:Int)+1 - (i:Int))]).run prog w= .ok (nI w.heap.size (cap+1) G) o:=λl=>by
  have h:=Lib.run_append_grow_zeros w S 3 l T i0 _ .i64 .i64 HU underlying3 ac af (some ⟨g,0,none⟩) i cap (xs.take i) I (cap+1 - i) (by omega) (by omega) (by omega) (by omega) (by rw[a7];rcases K with⟨_,_,_,_,rfl,_⟩|⟨_,_,_,_,rfl,_⟩<;>omega) (by rw[a7,show i+(cap+1 - i)=cap+1 by omega];rcases K with⟨_,_,_,_,rfl,_⟩|⟨_,_,_,_,rfl,_⟩<;>exact growslice_fits (by omega) (by omega));grind
 have ab:cap+1<=G:=by rw[hG];exact grownCap_ge w _ _ _
 have a8:G<=maxLen:=by rw[hG];exact grownCap_le_maxLen w (cap+1) cap T (by unfold maxLen;omega)
 have a9:R.size=G:=by
  rw[hR];rcases K with⟨_,_,_,_,_,rfl⟩|⟨_,_,_,_,_,rfl⟩<;>simp[Builtin.zeroCells,Value.cells]<;>omega
 have Z:R.toList.take i=xs.take i:=by
  rw[hR];simp only[Array.toList_append,uS];rw[JF (by grind),Av (by grind)]
 have q:o.heap[w.heap.size]?=some (gy R T):=by rw[V];exact fQ w.drew _
 have A:Kept [] w o:=by rw[V];exact(Kept.refl [] w).drew.alloc _
 have a0:=A.at hv (by simp);have aa:=A.at d (by simp);obtain⟨m,D⟩:∃m,m=o.setCells w.heap.size i [u]:=⟨_,rfl⟩;have a1:∀l N,(Builtin.copy_ #[S,S] l #[.slice (some ⟨w.heap.size,i,none⟩) (cap+1 - i) N,nI bv 1 1]).run prog o= .ok (goInt 1) m:=λl N=>by
  rw[D];exact Ul o _ _ l T w.heap.size i (cap+1 - i) N ⟨bv,0,none⟩ 1 1 [u] HU a6 (by grind)
   (λj x H=>by rw[js,fO a0,<-H];simp)
   (λj H=>by rw[fO q,wu (by grind)];rfl) (λj H=>gu q _) (λx hx=>by grind)
 have y:m.heap[w.heap.size]?=some (gy (jj R i [u]) T):=by rw[D];exact j5 [u] o _ R _ _ _ q
 have U:Kept [] w m:=by rw[D];exact Kept.setCells (.inr (gW _)) _ _ A
 have Y:=U.at d (by simp);have a2:∀l N sc,(Builtin.copy_ #[S,S] l #[.slice (some ⟨w.heap.size,i+1,none⟩) (cap - i) N,.slice (some ⟨g,i,none⟩) (cap - i) sc]).run prog m.drew= .ok (goInt (xs.drop i).length) (m.drew.setCells w.heap.size (i+1) (xs.drop i)):=λl N sc=>
  Ul m.drew _ _ l T w.heap.size (i+1) (cap - i) N ⟨g,i,none⟩ (cap - i) sc (xs.drop i) HU a6 (by grind)
   (λj x H=>by
    rw[Addr.add_lit];have h3:=a3 (i+j) x (by grind);rw[fO d]at h3;exact(fO Y _).trans h3)
   (λj H=>by show(m.cell? _).isSome=true;rw[fO y,wu (by grind[jj])];rfl) (λj H=>gu y _) (λx hx=>h1 x (JD hx))
 have HB:=j5 (xs.drop i) m.drew w.heap.size _ _ _ (i+1) y;have HK:=Kept.setCells (S:=[]) (a:=w) (b:=w.heap.size) (.inr (gW _)) (xs.drop i) (i+1) U.drew;have HF:=O7 (u:=u) a4 Z (by omega) hi;have ay:(cap:Int) < (cap:Int)+1:=by omega
 have ai:¬(G=i):=by omega
 have ah:¬(G=i+1):=by omega
 have am:¬(cap=i):=by omega
 have ax:IntKind.i64.wrap ((i:Int)+1)=(i:Int)+1:=by rw[IntKind.wrap_i64];omega
 have aj:(0:Int)<=(i:Int)+1:=by omega
 have ak:(i:Int)+1<=(cap:Int)+1:=by omega
 have au:((i:Int)+1).toNat=i+1:=by omega
 have al:(i:Int)<=(cap:Int):=by omega
 clear q A y U V d hv a0 aa Y h1 a3 a5 I hR hG Z D;rcases K with⟨rfl,rfl,rfl,rfl,rfl,rfl⟩|⟨rfl,rfl,rfl,rfl,rfl,rfl⟩
 all_goals
  first|go_enter func377,ntmps377|go_enter func256,ntmps256
  go_wp2_with (first
   |(at_builtin;refine Lib.wpList_append_run _ rfl _ _ _ _ rfl _ _ rfl rfl _ _ (ae _) ?_)
   |(at_builtin;refine wpList_copy_runI _ rfl _ _ _ _ rfl _ _ rfl rfl (a1 _ _) ?_))
  go_region_law (refine step_copy_runI rfl _ _ _ _ rfl (.slice (some ⟨w.heap.size,i+1,none⟩) (cap - i) (G - (i+1))) (.slice (some ⟨g,i,none⟩) (cap - i) (cap - i)) (by simp[Act.eval,Act.put]) (by simp[Act.eval,Act.put]) (a2 _ _ _) ?_)
  go_wp2;go_ret;refine⟨_,rfl,⟨by grind,.inr ⟨w.heap.size,G,_,rfl,hb,HB,ab,a8,by rw[jo,jo,DT];exact a9,by grind⟩⟩,HK.mono (by simp),.inr ?_⟩;intro k hk;simp[Value.ownBlock]at hk;omega
def abR (K:IK T S F O B z) (base n i l:Nat) (v u:gG) (xs:List gG) (w:gr) (V:w.ownsRow base T 1 v n xs) (J:w.heap[l]?=some (gy #[u] T)) (H:v.ownBlock≠some l) (I:u.oneCell'=true) (N:∀x∈xs,x.oneCell'=true) (hi:i<=n) (m:n<=1048576) (U:base<=w.heap.size):
  Calls prog F #[v,ga i,nI l 1 1] w (Wx T base v n i xs u w):=by
 by_cases A:i=n
 .subst A;exact Vh K base i l v u xs w V J I m U
 .rcases V.2 with⟨_,e0⟩|⟨g,cap,q,rfl,y,h,D,Z,o,d⟩
  .omega
  .have Y:l≠g:=λe=>H (by rw[e];rfl);rw[DT]at o d;by_cases hr:n+1<=cap
   .exact O8 K base g cap n i l u q xs w y h d o Z hr (by omega) J Y I N m
   .exact RW K base g cap n i l u q xs w h d o D (by omega) (by omega) J I N m U
end
def wF.U9 (h:wF base b j tB C v xs w) (d:∀x∈xs,td w x):acg v xs w:=Z6 h.row d
def wF.nj (h:wF base b j tB C v xs w):v.ownBlock≠some b:=by
 intro d;rcases h.row.2 with⟨e,_⟩|⟨g,cap,l,e,_,m,_⟩
 .rw[e]at d;cases d
 .rw[e]at d;obtain rfl:=jz d;exact xz m h.ik (wR h.ne) rfl
def row_one (xs:kL):∀u∈xs.map jY,u.oneCell'=true:=by
 intro u d;obtain⟨x,_,rfl⟩:=List.mem_map.1 d;rfl
def oo (base b j:Nat) (tB:TypeId) (C:jE) (v:gG) (ys:kL) (w w':gr):Prop:=
 ∃d,wF base b j tB (C.setIfInBounds j d) d ys w'/\Kept (b::v.ownBlock.toList) w w'/\(d.ownBlock=v.ownBlock\/∀k,d.ownBlock=some k->w.heap.size<=k)
def sN (h:C[j]?=some v):j < C.size:=(Array.getElem?_eq_some_iff.1 h).1
def Yb (base b j:Nat) (tB:TypeId) (C:jE) (v:gG) (xs:kL) (w:gr) (h:wF base b j tB C v xs w):
  Calls prog 169 #[lK b j] w λe w'=>e=ir (jY (io xs ((xs.length:Int) - 1)))/\w'=w:=by
 have g:=h.at;have d:=h.le;obtain⟨ao,cap,rfl⟩:=gv h.row;have H:=Ya base b j tB C _ xs ((xs.length:Int) - 1) w h;go_enter func169,ntmps169;go_wp21;refine H.mono ?_;rintro e w' ⟨rfl,rfl⟩;go_wp2;go_ret;simp
theorem abW (base b j:Nat) (tB:TypeId) (C:jE) (v:gG) (xs:kL) (x:jb) (w:gr) (h:wF base b j tB C v xs w) (m:∀x∈xs,td w x) (o:td w x):
  Calls prog 312 #[lK b j,jY x] w λe w'=>e=ir (.bool (decide (x∈xs)))/\w'=w:=by
 have y:=h.at;have n:=h.le;have l:Calls prog 339 #[v,jY x] w λe w'=>e=ir (.bool (decide (x∈xs)))/\w'=w:=by
  have H:=Ei v xs x w (h.U9 m) o h.le;have g:decide (0<=posOf xs x)=decide (x∈xs):=by
   unfold posOf;by_cases A:x∈xs
   .grind
   .grind
  have d:=fN g;clear g;generalize posOf xs x=q at H d;generalize decide (x∈xs)=r at d|-;go_enter func339,ntmps339;go_wp21;refine H.mono ?_;rintro e w' ⟨rfl,rfl⟩;go_wp2;go_ret;exact⟨by rw[<-d.out];rfl,rfl⟩
 obtain⟨ao,cap,rfl⟩:=gv h.row;have H:=l;go_enter func312,ntmps312;go_wp21;refine H.mono ?_;rintro e w' ⟨rfl,rfl⟩;go_wp2;go_ret;simp
def M1 (base b j:Nat) (tB:TypeId) (C:jE) (v:gG) (xs:kL) (x:jb) (w:gr) (h:wF base b j tB C v xs w) (g:∀x∈xs,td w x) (n:td w x):
  Calls prog 236 #[lK b j,jY x] w λe w'=>e=ir (jY (io xs (posOf xs x - 1)))/\w'=w:=by
 have o:=h.at;have l:=h.le;have m: -1<=posOf xs x/\posOf xs x<=4096:=by unfold posOf;split<;>omega
 have⟨hp1,hp2⟩:=m;have d:=Ei v xs x w (h.U9 g) n h.le;obtain⟨ao,cap,rfl⟩:=gv h.row;have H:=Ya base b j tB C _ xs (posOf xs x - 1) w h;generalize posOf xs x=q at H d hp1 hp2|-;go_enter func236,ntmps236;go_wp21;refine d.mono ?_;rintro e w' ⟨rfl,rfl⟩;go_wp21;refine H.mono ?_;rintro e w' ⟨rfl,rfl⟩;go_wp2;go_ret;simp
theorem Yc (base b j:Nat) (tB:TypeId) (C:jE) (v:gG) (xs:kL) (x:jb) (w:gr) (h:wF base b j tB C v xs w) (hl:xs.length < 4096) (hb:base<=w.heap.size):
  Calls prog 261 #[lK b j,jY x] w λe w'=>e=o9/\oo base b j tB C v (xs++[x]) w w':=by
 have⟨i0,hi,hz0,hz1,hz2⟩:=tj acO;have c1:=h.at;have a0:=h.nj;obtain⟨ao,cap,rfl⟩:=gv h.row;have H:=fN h;clear h;have l:Kept [] w (w.alloc (.cells #[jY x] 65)):=(Kept.refl _ _).alloc _;have o1:=l.ownsRow H.row (λ_ _=>by simp);have b1:=l.at H.ik (by simp);have v1:=fQ w (gy #[jY x] 65);have D:=fN v1;clear v1;go_enter func261,ntmps261;go_wp2_with (at_builtin;refine ij _ rfl _ _ 170 rfl base 65 i0 (.pointer none) 1 8 underlying170 hi hz0 hz1 hz2 rfl (by decide) (.slice ao xs.length cap) xs.length (xs.map jY) rfl o1 ⟨w.heap.size,0,none⟩ 1 1 [jY x] rfl rfl (λk u y=>by rw[js,fO D.out,<-y];simp) (λu y=>by simp at y;subst y;rfl) (by unfold maxLen;omega) (by omega) (by simp;omega) ?_);intro v' A d m I;have J:Kept (Value.slice ao xs.length cap).ownBlock.toList w A:=(l.mono (by simp)).grown m (λk o=> .inl (by grind));have b2:A.heap[b]?=some (gy C tB):=J.at H.ik (by grind);have⟨ao',cap',hv⟩:=gv d;subst hv;have d1:A.cell? ⟨b,j,none⟩=some (.slice ao xs.length cap):=by rw[fO b2];exact H.cell
 have d2:=gu b2 j;have N:=fV b2 j (.slice ao' (xs.length+1) cap');have q:(Value.slice ao' (xs.length+1) cap').ownBlock≠some b:=by
  intro o;rcases d.2 with⟨e,_⟩|⟨g,cap,Y,e,_,Z,_⟩
  .omega
  .rw[e]at o;obtain rfl:=jz o;exact xz Z b2 (wR H.ne) rfl
 have H4:=yb (a:=⟨b,j,none⟩) d q (.slice ao' (xs.length+1) cap');have U:Kept (b::(Value.slice ao xs.length cap).ownBlock.toList) w (A.setCell ⟨b,j,none⟩ (.slice ao' (xs.length+1) cap')):=(J.mono (λk o _=>pX _ o)).setCell (.inl (by simp)) _;have n:(Value.slice ao' (xs.length+1) cap').ownBlock=(Value.slice ao xs.length cap).ownBlock\/∀k,(Value.slice ao' (xs.length+1) cap').ownBlock=some k->w.heap.size<=k:=by
  rcases I with e|e
  .grind
  .grind
 have V:=n;go_wp2;go_end0;refine⟨rfl,_,⟨N,?_,?_,H.ne,by grind⟩,U,V⟩
 .simp[sN H.out.cell]
 grind
theorem abY (base b j:Nat) (tB:TypeId) (C:jE) (v:gG) (xs:kL) (w:gr) (h:wF base b j tB C v xs w):
  Calls prog 174 #[lK b j] w λe w'=>e=ir (jY (io xs ((xs.length:Int) - 1)))/\oo base b j tB C v xs.dropLast w w':=by
 have D:=Yb base b j tB C v xs w h;have c1:=h.at;have V:=h.le;have q:=h.nj;obtain⟨ao,cap,rfl⟩:=gv h.row;have a0:xs.length<=cap:=by
  rcases h.row.2 with⟨e,I⟩|⟨g,d,l,e,_,_,o,_⟩
  .omega
  .grind
 obtain⟨m,Y⟩:∃m:Nat,m=xs.length - 1:=⟨_,rfl⟩;have Z:max (0:Int) ((xs.length:Int) - 1)=(m:Int):=by omega
 have hf:=gu h.ik j;have H:oo base b j tB C (.slice ao xs.length cap) xs.dropLast w (w.drew.setCell ⟨b,j,none⟩ (.slice ao m cap)):=by
  have hr:(w.drew.setCell ⟨b,j,none⟩ (.slice ao m cap)).ownsRow base 65 1 (.slice ao m cap) xs.dropLast.length (xs.dropLast.map jY):=by
   have y:w.ownsRow base 65 1 (.slice ao m cap) xs.dropLast.length (xs.dropLast.map jY):=by
    refine⟨by simp,?_⟩;rcases h.row.2 with⟨e,I⟩|⟨g,d,l,e,n,J,o,N,U,A⟩
    .grind
    .injection e with e1 e2 e3;refine .inr ⟨g,cap,l,by grind,n,J,by grind,by omega,by omega,?_⟩;rw[DT]at A|-;rw[List.length_dropLast,List.map_dropLast,<-A,Zg,LV];grind
   refine yb (a:=⟨b,j,none⟩) (w:=w.drew) y ?_ _;have:(Value.slice ao m cap).ownBlock=(Value.slice ao xs.length cap).ownBlock:=by cases ao<;>rfl
   rw[this];exact q
  refine⟨_,⟨fV (w:=w.drew) h.ik j _,?_,hr,h.ne,by grind⟩,(Kept.refl _ w).drew.setCell (.inl (by simp)) _,.inl (by cases ao<;>rfl)⟩;simp[sN h.cell]
 clear h Y;go_enter func174,ntmps174;go_wp21;refine D.mono ?_;rintro e w' ⟨rfl,hw⟩;subst hw;go_wp21;go_region;go_wp2;go_ret;exact⟨rfl,H⟩
def sv (xs:kL) (x:jb):(x∉xs/\posOf xs x= -1)\/∃n:Nat,posOf xs x=n/\n < xs.length/\n=xs.idxOf x/\xs[n]?=some x:=by
 unfold posOf;by_cases g:x∈xs
 .have d:=List.idxOf_lt_length_iff.2 g;rw[gN d];exact .inr ⟨_,rfl,d,rfl,by rw[qw d];simp⟩
 .rw[gI (λd=>g (List.idxOf_lt_length_iff.1 d))];exact .inl ⟨g,rfl⟩
def C7 {n : Nat} (d:n=xs.idxOf x):xs.take n++xs.drop (n+1)=xs.erase x:=by
 rw[<-List.eraseIdx_eq_take_drop_succ,d,List.erase_eq_eraseIdx_of_idxOf rfl]
theorem oo.refl (h:wF base b j tB C v xs w):oo base b j tB C v xs w w:=by
 have e:C.setIfInBounds j v=C:=by
  have:=h.cell;apply Array.ext_getElem?;intro i;by_cases d:j=i
  .grind
  .grind
 exact⟨v,by grind,Kept.refl _ _,.inl rfl⟩
theorem zS (base b j:Nat) (tB:TypeId) (C:jE) (v:gG) (xs:kL) (x:jb) (w:gr) (h:wF base b j tB C v xs w) (he:∀x∈xs,td w x) (hx:td w x):
  Calls prog 177 #[lK b j,jY x] w λe w'=>e=o9/\oo base b j tB C v (xs.erase x) w w':=by
 have c1:=h.at;have I:=Ei v xs x w (h.U9 he) hx h.le;rcases sv xs x with⟨Z,hp⟩|⟨n,hp,a1,hn,_⟩
 .have HF:=oo.refl h;rw[List.erase_of_not_mem Z];obtain⟨ao,cap,rfl⟩:=gv h.row;rw[hp]at I;clear h;go_enter func177,ntmps177;go_wp2_with fail;refine I.mono ?_;rintro e w' ⟨rfl,hw⟩;subst hw;go_wp2;go_end0;grind
 .have A:=h.nj;have V:=h.le;rcases h.row.2 with⟨_,e0⟩|⟨g,cap,J,rfl,N,q,Y,hm,D,d⟩
  .omega
  rw[DT]at D d;have HD:=acC g cap n (n+1) xs.length J w q Y D (by omega) (by omega) V (by rw[d];exact row_one xs);rw[show((n+1:Nat):Int)=(n:Int)+1 by omega,show xs.length - (n+1 - n)=xs.length - 1 by omega]at HD;have HN:=fN hn;clear hn;have H:=fN h;have HT:=fN d;rw[hp]at I;clear h d;go_enter func177,ntmps177;go_wp2_with fail;refine I.mono ?_;rintro e w' ⟨rfl,hw⟩;subst hw;go_wp2_with fail;refine HD.mono ?_;rintro e w2 ⟨rfl,o,U,a2,a0,y⟩;have b2:=y.at H.ik (by intro m;exact A (by simp at m;rw[m];rfl));have d1:w2.cell? ⟨b,j,none⟩=some (nI g xs.length cap):=by rw[fO b2];exact H.cell
  have d2:=gu b2 j;have H3:=fV b2 j (nI g (xs.length - 1) cap);have l:(xs.erase x).length=xs.length - 1:=by rw[<-C7 HN.out];simp;omega
  have r2:w2.ownsRow base 65 1 (nI g (xs.length - 1) cap) (xs.erase x).length ((xs.erase x).map jY):=by
   refine⟨by simp,.inr ⟨g,cap,o,by rw[l],N,U,by omega,hm,by omega,?_⟩⟩;rw[DT,l,a0,HT.out,<-C7 HN.out,ra,List.map_take,List.map_drop]
  have H4:=yb (a:=⟨b,j,none⟩) r2 A (nI g (xs.length - 1) cap);have H5:Kept (b::(nI g xs.length cap).ownBlock.toList) w' (w2.setCell ⟨b,j,none⟩ (nI g (xs.length - 1) cap)):=(y.mono (λk hk _=>by simp at hk;subst hk;simp[Value.ownBlock])).setCell (.inl (by simp)) _;have HL:=fN l;clear l;go_wp2;go_end0;exact⟨rfl,_,⟨H3,by simp[sN H.out.cell],H4,H.ne,by grind⟩,H5,.inl rfl⟩
def pI (xs:kL) (x y:jb):kL:=if x∈xs then xs.set (xs.idxOf x) y else xs
def iV (xs:kL) (x y:jb):kL:=if x∈xs then xs.take (xs.idxOf x+1)++[y]++xs.drop (xs.idxOf x+1)else xs
def nW (xs:kL) (x:jb):kL:=((xs.reverse.dropWhile (·≠x)).tail).reverse
theorem oo.trans {v' : gG} {ys l : kL} {h : gr}
  (n:wF base b j tB (C.setIfInBounds j v') v' ys w1) (g:Kept (b::v.ownBlock.toList) w w1) (o:v'.ownBlock=v.ownBlock\/∀k,v'.ownBlock=some k->w.heap.size<=k)
  (m:oo base b j tB (C.setIfInBounds j v') v' l w1 h):oo base b j tB C v l w h:=by
 have⟨v2,L2,k2,f2⟩:=m;refine⟨v2,by simp_all,g.next k2 ?_,?_⟩
 .grind
 .rcases f2 with e|e
  .grind
  .exact .inr λk d=>jH g.size (e k d)
def Eo (base b j:Nat) (tB:TypeId) (C:jE) (v:gG) (xs:kL) (x y:jb) (w:gr) (h:wF base b j tB C v xs w) (he:∀x∈xs,td w x) (hx:td w x):
  Calls prog 266 #[lK b j,jY x,jY y] w λe w'=>e=o9/\oo base b j tB C v (pI xs x y) w w':=by
 have c1:=h.at;have q:=Ei v xs x w (h.U9 he) hx h.le;rcases sv xs x with⟨U,Y⟩|⟨n,Y,a0,J,HX⟩;have HF:=oo.refl h;have Z:pI xs x y=xs:=by unfold pI;rw[gI U]
 rw[Z];obtain⟨ao,cap,rfl⟩:=gv h.row;rw[Y]at q
 rotate_left
 have V:=h.nj;have I:=h.le;have Z:pI xs x y=xs.set n y:=by unfold pI;rw[gN (tk HX),<-J]
 rw[Z];rcases h.row.2 with⟨_,e0⟩|⟨g,cap,m,rfl,D,d,N,hm,o,l⟩
 .omega
 rw[DT]at o l;have H:g≠b:=λe=>V (by rw[e];rfl);have d1:∃u,w.cell? ⟨g,n,none⟩=some u:=⟨m[n]'(by omega),by rw[fO d];simp⟩;have⟨u,d1⟩:=d1;have d2:=gu d n;have HF:oo base b j tB C (nI g xs.length cap) (xs.set n y) w (w.setCell ⟨g,n,none⟩ (jY y)):=by
  have A:(w.setCell ⟨g,n,none⟩ (jY y)).heap[b]?=some (gy C tB):=by rw[Below.heap_setCell w ⟨g,n,none⟩ _ b (wR H)];exact h.ik
  have L2:wF base b j tB C (nI g xs.length cap) (xs.set n y) (w.setCell ⟨g,n,none⟩ (jY y)):=by
   refine⟨A,h.cell,⟨by simp,.inr ⟨g,cap,_,by simp,D,fV d n (jY y),by simpa using N,hm,by simpa using o,?_⟩⟩,h.ne,by simpa using I⟩;have:(m.setIfInBounds n (jY y)).toList=m.toList.set n (jY y):=by simp
   rw[this,List.length_set,DT,List.take_set,l,List.map_set]
  have⟨v',L',k',f'⟩:=oo.refl L2;exact⟨v',L',(((Kept.refl _ w).setCell (p:=⟨g,n,none⟩) (.inl (by simp[Value.ownBlock])) _).trans k'),by simpa using f'⟩
 have HN:=fN J;rw[Y]at q;clear J
 all_goals
  go_enter func266,ntmps266;go_wp21;refine q.mono ?_;rintro e w' ⟨rfl,hw⟩;subst hw;go_wp2;go_end0;exact⟨rfl,HF⟩
theorem FL (base b j:Nat) (tB:TypeId) (C:jE) (v:gG) (xs:kL) (x y:jb) (w:gr) (h:wF base b j tB C v xs w) (he:∀x∈xs,td w x) (hx:td w x) (hl:xs.length < 4096) (hb:base<=w.heap.size):
  Calls prog 366 #[lK b j,jY x,jY y] w λe w'=>e=o9/\oo base b j tB C v (iV xs x y) w w':=by
 have c1:=h.at;have q:=Ei v xs x w (h.U9 he) hx h.le;rcases sv xs x with⟨U,Y⟩|⟨n,Y,a4,N,HX⟩
 .have D:=oo.refl h;have Z:iV xs x y=xs:=by unfold iV;rw[gI U]
  rw[Z];obtain⟨ao,cap,rfl⟩:=gv h.row;rw[Y]at q;clear h;go_enter func366,ntmps366;go_wp21;refine q.mono ?_;rintro e w' ⟨rfl,hw⟩;subst hw;go_wp2;go_end0;exact⟨rfl,D⟩
 .have V:=h.nj;have a3:=h.le;have Z:iV xs x y=xs.take (n+1)++[y]++xs.drop (n+1):=by unfold iV;rw[gN (tk HX),<-N]
  rw[Z];have d:Kept [] w (w.alloc (.cells #[jY y] 65)):=(Kept.refl _ _).alloc _;have v1:=fQ w (gy #[jY y] 65);have a1:(w.alloc (gy #[jY y] 65)).heap.size=w.heap.size+1:=by simp
  have a5:=h.row.lt;have HD:=abR (.inl ⟨rfl,rfl,rfl,rfl,rfl,rfl⟩) base xs.length (n+1) w.heap.size v (jY y) (xs.map jY) (w.alloc (gy #[jY y] 65)) (d.ownsRow h.row (λ_ _=>by simp)) v1 (λe=>by grind) rfl (row_one xs) (by omega) (by omega) (by omega);rw[show((n+1:Nat):Int)=(n:Int)+1 by omega]at HD;have a0:=d.at h.ik (by simp);obtain⟨ao,cap,rfl⟩:=gv h.row;have H:=fN h;have HN:=fN N;rw[Y]at q;clear h N;go_enter func366,ntmps366;go_wp21;refine q.mono ?_;rintro e w' ⟨rfl,hw⟩;subst hw;go_wp21;refine HD.mono ?_;rintro e A ⟨v',rfl,l,J,I⟩;have⟨ao',cap',hv⟩:=gv l;subst hv;have K2:Kept (Value.slice ao xs.length cap).ownBlock.toList w' A:=(d.mono (by simp)).trans (S:=(Value.slice ao xs.length cap).ownBlock.toList) J;have b2:A.heap[b]?=some (gy C tB):=K2.at H.ik (by simpa using V);have d1:A.cell? ⟨b,j,none⟩=some (.slice ao xs.length cap):=by rw[fO b2];exact H.cell
  have d2:=gu b2 j;have H3:=fV b2 j (.slice ao' (xs.length+1) cap');have o:(Value.slice ao' (xs.length+1) cap').ownBlock≠some b:=by
   intro hk;rcases l.2 with⟨e,_⟩|⟨g,cap,a2,e,_,hc,_⟩
   .omega
   .grind
  have H4:=yb (a:=⟨b,j,none⟩) l o (.slice ao' (xs.length+1) cap');have H5:Kept (b::(Value.slice ao xs.length cap).ownBlock.toList) w' (A.setCell ⟨b,j,none⟩ (.slice ao' (xs.length+1) cap')):=(K2.mono (λk hk _=>pX _ hk)).setCell (.inl (by simp)) _;have m:(Value.slice ao' (xs.length+1) cap').ownBlock=(Value.slice ao xs.length cap).ownBlock\/∀k,(Value.slice ao' (xs.length+1) cap').ownBlock=some k->w'.heap.size<=k:=by
   rcases I with e|e
   .exact .inl e
   .grind
  have D:=m;go_wp2;go_end0;refine⟨rfl,_,⟨H3,by simp[sN H.out.cell],?_,H.ne,by simp;omega⟩,H5,D⟩;have e1:(xs.take (n+1)++[y]++xs.drop (n+1)).length=xs.length+1:=by simp;omega
  simp_all
def VH (x:jb):nW [] x=[]:=rfl
theorem Sm (xs:kL) (y x:jb):nW (xs++[y]) x=if y=x then xs else nW xs x:=by
 unfold nW;rw[Um];by_cases h:y=x
 all_goals simp_all
theorem H8 (xs:kL) (y:jb):io (xs++[y]) (((xs++[y]).length:Int) - 1)=y:=by
 unfold io;rw[gN (by grind)];simp
def zT (a:Addr) (w:gr):Nat:=match w.cell? a with
 |some (.slice _ n _)=>n
 |_=>0
def wF.zT (h:wF base b j tB C v xs w):zT ⟨b,j,none⟩ w=xs.length:=by
 obtain⟨ao,cap,rfl⟩:=gv h.row;unfold YtccjlklnkhagdaaGreatDoor.zT;rw[h.at]
def td.kept (h:td w x) (l:Kept S w w') (g:∀k,x=some k->k∉S):td w' x:=by
 intro k d;have⟨c,hc⟩:=h k d;exact⟨c,l.at hc (g k d)⟩
theorem Hl (h:wF base b j tB C v xs w) (n:tB≠136) (q:td w x):∀k,x=some k->k∉b::v.ownBlock.toList:=by
 intro k o d;have⟨c,hc⟩:=q k o;rcases List.mem_cons.1 d with rfl|d
 .exact xz h.ik hc n rfl
 .rcases h.row.2 with⟨e,_⟩|⟨g,cap,m,e,_,l,_⟩
  .rw[e]at d;simp[Value.ownBlock]at d
  .rw[e]at d;simp[Value.ownBlock]at d;grind
theorem TI (base b j:Nat) (tB:TypeId) (C:jE) (v:gG) (xs:kL) (x:jb) (w:gr) (h:wF base b j tB C v xs w) (hB:tB≠136) (he:∀x∈xs,td w x) (hx:td w x):
  Calls prog 318 #[lK b j,jY x] w λe w'=>e=o9/\oo base b j tB C v (nW xs x) w w':=by
 have h0:=oo.refl h;have hE:=he;have hX:=hx;have hO:=(λy hy=>Hl h hB (he y hy));have V:=Hl h hB hx;go_enter func318,ntmps318;go_wp2
 go_loopw [9] (λ_ wr=>∃l,(∀y∈l,y∈xs)/\nW l x=nW xs x/\oo base b j tB C v l w wr) (λ_ wr=>zT ⟨b,j,none⟩ wr)
 case atStart=>grind
 case round=>
  have⟨l,hS,hpt,v',L1,k1,f1⟩:=hrel;have q:=L1.zT;have U:=L1.at;have⟨ao,cap,hv⟩:=gv L1.row;have Y:l=[]\/∃g y,l=g++[y]:=by
   rcases Zh l with h|⟨g,y,h⟩
   .grind
   .grind
  rcases Y with rfl|⟨g,y,rfl⟩
  .rw[hv]at U;have I:=(show oo base b j tB C v (nW xs x) w wr from⟨v',by rw[<-hpt,VH];exact L1,k1,f1⟩);clear L1 q;go_wp2;go_end0;grind
  .rw[hv]at U;have o:0 < (g++[y]).length:=by simp
   have HP:=abY base b j tB _ v' _ wr L1;rw[H8]at HP;have HY:td w y:=hE y (hS y (by simp));have J:=hO y (hS y (by simp));have HT:=(λ(D:gr) (h2:oo base b j tB (C.setIfInBounds j v') v' (g++[y]).dropLast wr D)=>oo.trans L1 k1 f1 h2);have HL:=fN L1;have hq:=fN (show nW xs x=if y=x then g else nW g x by rw[<-hpt,Sm]);have A:=fN q;obtain⟨m,H⟩:∃m,m=(g++[y]).length:=⟨_,rfl⟩;rw[<-H]at U o A;have HM:=fN H;have a1:m<=4096:=by rw[H];exact L1.le
   clear L1 q H;go_wp21;refine HP.mono ?_;rintro e D ⟨rfl,Z⟩;have T2:=HT D Z;rw[Un]at T2;have⟨v2,L2,k2,f2⟩:=T2;have n:=Bx (HY.kept k2 J) (hX.kept k2 V);have a0:=fN L2.zT;by_cases d:y=x
   .rw[uR d]at n;have I:=(show oo base b j tB C v (nW xs x) w D from⟨v2,by rw[hq.out,gN d];exact L2,k2,f2⟩);clear L2 d;go_wp2
    (try simp only[Exit.inBlock,Exit.then])
    refine o0 (F8 rfl _ _ _) rfl ?_;grind
   .rw[wQ d]at n;have I:=(show oo base b j tB C v g w D from⟨v2,L2,k2,f2⟩);have N:=fN d;clear L2 d;go_wp2;go_roundw
    case rel=>exact⟨g,λz q=>hS z (by simp[q]),by rw[hq.out,gI N.out],I⟩
    case measure=>rw[a0.out,A.out,HM.out];simp
attribute [local go_sem] Oper.semAt_some
def kj (K:List Nat) (W d:gr):Prop:=∀k∈K,d.heap[k]?=W.heap[k]?
def kj.refl (K:List Nat) (W:gr):kj K W W:=λ_ _=>rfl
def kj.trans {A B C : gr} (h:kj K A B) (k:kj K B C):kj K A C:=λx d=>(k x d).trans (h x d)
def kj.jC {d : gr} (h:Kept S W d) (g:∀k∈K,k < W.heap.size/\k∉S):kj K W d:=λk l=>h.block k (g k l).1 (g k l).2
theorem kj.put (g:∀k∈K,k < w.heap.size) (W:gr) (l:Nat) (o d:Obj) (m:w.heap.size<=l) (_:W.heap[l]?=some o) (_:o.isCells=false) (_:o.isWalk=false):kj K W (W.putObj l d):=
 λk h=>rG (by grind)
theorem wF.Em (h:wF base b j tB C v xs w) (m:kj K w w') (n:b∈K) (q:∀k,v.ownBlock=some k->k∈K):wF base b j tB C v xs w':=by
 refine⟨(m b n).trans h.ik,h.cell,⟨h.row.1,?_⟩,h.ne,h.le⟩;rcases h.row.2 with e|⟨g,cap,d,e,l,o,r⟩
 .grind
 .exact .inr ⟨g,cap,d,e,l,(m g (q g (by rw[e];rfl))).trans o,r⟩
theorem adu (m:Nat) (a9:1<=m) (base b j:Nat) (tB:TypeId) (C:jE) (v:gG) (xs:kL) (n bN H l:Nat) (K:List Nat) (J Jx:List {x:jb // x∈xs}->gr->Prop)
  (hn:n<=xs.length) (a4:b∈K) (a3:H∈K) (a5:∀k,v.ownBlock=some k->k∈K)
  (hY:∀pre x W,J pre W->pre.length < n->YieldAt Fence.wide (m - 1) prog l #[jY x.1] W λe D=>
   (e=ir (.bool true)/\J (pre++[x]) D/\kj K W D)\/(e=ir (.bool false)/\Jx (pre++[x]) D))
  (W:gr) (h:wF base b j tB C v xs W) (hN:W.cell? ⟨bN,0,none⟩=some (ga n)) (hL:W.cell? ⟨H,0,none⟩=some (lK b j)) (h0:J [] W):
  CallsIn Fence.wide m prog 347 #[.func (.yield l) #[] #[],gF bN,gF H] W λe D=>(∃r,e=ir r)/\
   ((∃ys,ys.map (·.1)=(xs.take n).reverse/\J ys D)\/(∃pre,pre.map (·.1) <+:(xs.take n).reverse/\Jx pre D)):=by
 refine callsIn_of_wp func347 rfl trivial ?_ rfl;simp only[ntmps347,wS,sW,wx,Nat.reduceAdd,Nat.reduceSub,wT,wU,wV,wW,sC,uT];have a7:=h.le;have HL:=fN h;clear h;have HY:=fN hY;clear hY;gi_wp2
 gi_loopw [4] (λi wr=>∃(k:Nat) (pre:List {x:jb // x∈xs}),k<=n/\pre.length=k/\i=ga ((n:Int) - 1 - k)/\pre.map (·.1)=(xs.take n).reverse.take k/\kj K W wr/\J pre wr)
  (λi _=>((intOf i)+1).toNat)
 case atStart=>grind[kj]
 case round=>
  obtain⟨k,pre,hk,aa,rfl,A,g,hJ⟩:=hrel;have L1:=HL.out.Em g a4 a5;have cL:wr.cell? ⟨H,0,none⟩=some (lK b j):=(Zf (w:=W) (g H a3)).trans hL;have HP:=fN A;have a0:=fN g;clear A g;by_cases a8:k < n
  .obtain⟨q,hq⟩:∃q:Nat,q=n - 1 - k:=⟨_,rfl⟩;have V:(n:Int) - 1 - k=(q:Int):=by omega
   have o:q < xs.length:=by omega
   rw[V];have hA:=Ya base b j tB C v xs (q:Int) wr L1;have hg:io xs (q:Int)=xs[q]:=by unfold io;rw[gN (by omega)];simp[o]
   rw[hg]at hA;have HA:=fN hA;have⟨fn,tmps,assign,body,hy,hR⟩:=HY.out pre ⟨xs[q],ti o⟩ wr hJ (by omega);dsimp only at hy;have d:(pre++[(⟨xs[q],ti o⟩:{x:jb // x∈xs})]).map (·.1)=(xs.take n).reverse.take (k+1):=by
    have U:(xs.take n).length=n:=by simp;omega
    have e1:(xs.take n).reverse[k]?=some xs[q]:=by
     rw[QO (by omega),U,DS,gN (by omega),show n - 1 - k=q from hq.symm,qw o]
    rw[ra,HP.out,DV,e1];rfl
   have HS:=fN d;have HR:=fN hR;have HQ:=fN hq;clear hA hg d hR L1 hq V
   gi_wp2_with (refine⟨trivial,?_⟩;gi_at_call 238;refine(callsIn_wide.2 HA.out).mono ?_;rintro e w' ⟨rfl,rfl⟩)
   refine HR.out.mono ?_;rintro e W3 (⟨rfl,a2,N⟩|⟨rfl,I⟩)
   .have Z:=fN (a0.out.trans N);clear N;gi_wp2;go_roundw
    case rel=>exact⟨k+1,_,by omega,by grind,by have:=HQ.out;grind,HS.out,Z.out,a2⟩
    case measure=>simp[intOf]
   .gi_wp2;refine o0 (F8 rfl _ _ _) rfl ?_;refine⟨⟨_,rfl⟩,.inr ⟨_,?_,I⟩⟩;rw[HS.out];exact List.take_prefix _ _
  .have a6:k=n:=by omega
   have Y:pre.map (·.1)=(xs.take n).reverse:=by
    rw[HP.out,Av (by grind)]
   have a1:=fN Y;have y:(n:Int) - 1 - k= -1:=by omega
   rw[y];clear Y a6 y;gi_wp2;go_end0;exact⟨⟨_,rfl⟩,.inl ⟨pre,a1.out,hJ⟩⟩
abbrev mx (b j:Nat) (n:Int) (w:gr):gr:=(w.alloc (gy #[lK b j] 276)).alloc (gy #[ga n] 3)
abbrev uz (s:Nat):gG:= .func (.func 347) #[] #[gF (s+1),gF s]
def LU (b j:Nat) (n:Int) (w:gr):
  Calls prog 320 #[lK b j,ga n] w λe w'=>e=ir (uz w.heap.size)/\w'=mx b j n w:=by
 go_enter func320,ntmps320;go_wp2;go_ret;simp
def Vr (base b j:Nat) (tB:TypeId) (C:jE) (v:gG) (xs:kL) (w:gr) (h:wF base b j tB C v xs w):
  Calls prog 284 #[lK b j] w λe w'=>e=ir (uz w.heap.size)/\w'=mx b j xs.length w:=by
 have l:=h.at;obtain⟨ao,cap,rfl⟩:=gv h.row;have H:=LU b j xs.length w;go_enter func284,ntmps284;go_wp21;refine H.mono ?_;rintro e w' ⟨rfl,d⟩;have g:=fN d;clear d;go_wp2;go_ret;exact⟨rfl,g⟩
def aap (base b j:Nat) (tB:TypeId) (C:jE) (v:gG) (xs:kL) (x:jb) (w:gr) (h:wF base b j tB C v xs w) (m:∀x∈xs,td w x) (n:td w x):
  Calls prog 375 #[lK b j,jY x] w λe w'=>e=ir (uz w.heap.size)/\w'=mx b j (posOf xs x) w:=by
 have o:=h.at;have g:=Ei v xs x w (h.U9 m) n h.le;obtain⟨ao,cap,rfl⟩:=gv h.row;have H:=LU b j (posOf xs x) w;generalize posOf xs x=q at H g|-;go_enter func375,ntmps375;go_wp21;refine g.mono ?_;rintro e w' ⟨rfl,d⟩;subst d;go_wp21;refine H.mono ?_;rintro e w' ⟨rfl,d⟩;have l:=fN d;clear d;go_wp2;go_ret;exact⟨rfl,l⟩
theorem QE (m:Nat) (H:1<=m) (base b j:Nat) (tB:TypeId) (C:jE) (v:gG) (xs:kL) (n s:Nat) (K:List Nat) (w:gr)
  (h:wF base b j tB C v xs w) (hn:n<=xs.length) (q:b∈K) (o:s∈K) (y:∀k,v.ownBlock=some k->k∈K) (D:s+1 < w.heap.size)
  (Y:w.heap[s+1]?=some (gy #[ga n] 3)) (V:w.heap[s]?=some (gy #[lK b j] 276)):
  SeqStopsK Fence.wide m prog 347 #[gF (s+1),gF s] (λx:{x:jb // x∈xs}=>#[jY x.1]) (kj K)
   (λys=>ys.map (·.1)=(xs.take n).reverse) (λpre=>pre.map (·.1) <+:(xs.take n).reverse) n w:=by
 intro l J I W g _ _ Z U;have A:=je h.ik;have N:wF base b j tB C v xs W:=by
  refine h.Em (K:=b::v.ownBlock.toList) (λk d=>g.block k ?_) (by simp) (λk d=>by simp[d]);rcases List.mem_cons.1 d with rfl|d
  .exact A
  .exact(h.row.lt k (by grind)).2
 exact adu m H base b j tB C v xs n (s+1) s l K J I hn q o y Z W N (by rw[fO ((g.block _ D).trans Y)];rfl) (by rw[fO ((g.block _ (by omega)).trans V)];rfl) U
def kh (a b:gn):Bool:=a.toList==b.toList
def wL {a b : gn}:kh a b=true↔a=b:=by
 unfold kh;rw[sD,sD,beq_iff_eq];exact⟨λh=>WideShapes.bytes_inj h,λh=>by rw[h]⟩
def Xx {a b : gn}:kh a b=false↔a≠b:=by rw[Ne,<-wL];simp
def hH (d:List gn) (x:gn):Bool:=d.any (kh x)
def PG (d:List gn) (s:gn):Int:=if d.findIdx (kh s) < d.length then (d.findIdx (kh s):Int)else -1
theorem aaO {xs : List gn} {x : gn} (n:k < xs.length) (l:xs[k]=x) (h:∀j,j < k->xs[j]?≠some x):PG xs x=k:=by
 have q:xs.findIdx (kh x)=k:=by
  have g:xs.findIdx (kh x) < xs.length:=Zi ⟨x,l▸ti n,wL.2 rfl⟩;have m:¬xs.findIdx (kh x) < k:=λd=>h _ d (by
   rw[qw g];exact pJ some (wL.1 (List.findIdx_getElem (w:=g))).symm)
  have o:¬k < xs.findIdx (kh x):=λd=>by
   have:=List.not_of_lt_findIdx d;rw[l]at this;exact absurd (wL.2 rfl) (by simpa using this)
  omega
 grind[PG]
def aaP {xs : List gn} {x : gn} (d:∀j,j < xs.length->xs[j]?≠some x):PG xs x= -1:=by
 unfold PG;rw[gI];intro h;exact d _ h (by rw[qw h];exact pJ some (wL.1 (List.findIdx_getElem (w:=h))).symm)
theorem YF (xs:List gn) (x:gn):decide (0<=PG xs x)=hH xs x:=by
 grind[PG,hH]
theorem aaf (g cap:Nat) (d:List gn) (x:gn) (w:gr) (H:∀k,(U:k < d.length)->w.cell? ⟨g,k,none⟩=some (gw d[k])) (V:d.length<=4096):
  Calls prog 319 #[nI g d.length cap,gw x] w λe w'=>e=ir (ga (PG d x))/\w'=w:=by
 have I:=fN H;clear H;go_enter func319,ntmps319;go_wp2
 go_loopw [8] (λi wr=>∃k:Nat,k<=d.length/\i=ga k/\wr=w/\∀j,j < k->d[j]?≠some x) (λi _=>d.length - (intOf i).toNat)
 case atStart=>grind
 case round=>
  obtain⟨k,U,rfl,rfl,A⟩:=hrel;by_cases l:k < d.length
  .have J:=I k l;obtain⟨y,q⟩:∃y,y=d[k]:=⟨_,rfl⟩;rw[<-q]at J;have D:=fN q;clear q;by_cases m:x=y
   .have o:=fN (aaO l (D.symm.trans m.symm) A);subst m;go_wp2;go_ret;exact⟨by rw[o.out];rfl,rfl⟩
   .have n:=m;have Y:(x.toList==y.toList)=false:=Xx.2 m;go_wp2;go_roundw
    case rel=>
     refine⟨k+1,by omega,by go_num,by simp,λj N=>?_⟩;by_cases e:j=k
     .subst e;rw[qw l];exact λh=>n ((jz h).symm.trans D.symm)
     grind
    case measure=>simp[intOf];omega
  .have o:=fN (aaP (xs:=d) (x:=x) (λj N=>A j (by omega)));go_wp2;go_ret;exact⟨by rw[o.out];rfl,rfl⟩
def Mw (g cap:Nat) (d:List gn) (x:gn) (w:gr) (m:∀k,(hk:k < d.length)->w.cell? ⟨g,k,none⟩=some (gw d[k])) (l:d.length<=4096):
  Calls prog 282 #[nI g d.length cap,gw x] w λe w'=>e=ir (.bool (hH d x))/\w'=w:=by
 have H:=aaf g cap d x w m l;have h:=fN (YF d x);generalize PG d x=q at H h;generalize hH d x=r at h|-;go_enter func282,ntmps282;go_wp21;refine H.mono ?_;rintro e w' ⟨rfl,rfl⟩;go_wp2;go_ret;exact⟨by rw[<-h.out];rfl,rfl⟩
structure nK (E:List Nat) (v:gG) (p:gn->Bool) (w:gr):Prop where
 ex:∃k lb,v= .func (.func k) #[] lb/\Enters prog k/\∀W,kj E w W->∀s,Calls prog k (#[gw s]++lb) W λe W'=>e=ir (.bool (p s))/\W'=W
 lt:∀e∈E,e < w.heap.size
def nK.keeps (h:nK E v p w) (n:kj E w w') (q:w.heap.size<=w'.heap.size):nK E v p w':=by
 obtain⟨⟨k,y,rfl,m,l⟩,o⟩:=h;exact⟨⟨k,y,rfl,m,λW g s=>l W (n.trans g) s⟩,λe d=>mf (o e d) q⟩
def nK.kept (h:nK E v p w) (g:Kept S w w') (l:∀e∈E,e∉S):nK E v p w':=
 h.keeps (kj.jC g λk d=>⟨h.lt k d,l k d⟩) g.size
def nK.ib (h:nK E v p w) (d:Kept [] w w'):nK E v p w':=h.kept d (λ_ _=>by simp)
def nR (h:kj E w W) (d:b∈E) (g:w.heap[b]?=some (gy c t)):W.heap[b]?=some (gy c t):=(h b d).trans g
theorem XZ (bs g cap:Nat) (d:List gn) (w:gr) (n:w.heap[bs]?=some (gy #[nI g d.length cap] 200)) (o:w.heap[g]?=some (gy (d.map Value.string).toArray 9)) (h:d.length<=4096):
  nK [bs,g] (.func (.func 281) #[] #[gF bs]) (hH d) w:=by
 refine⟨⟨_,_,rfl,enters_of func281 (by rfl) rfl,λW l s=>?_⟩,λe q=>?_⟩
 .have m:=fO (nR l (by simp) n) 0;dsimp at m;have H:=Mw g cap d s W (λk y=>by rw[fO (nR l (by simp) o)];simp) h;show Calls prog 281 #[gw s,gF bs] W _;generalize hH d s=r at H|-;go_enter func281,ntmps281;go_wp21;refine H.mono ?_;rintro e w' ⟨rfl,rfl⟩;go_wp2;go_ret;simp
 grind
def abS (g cap:Nat) (n:Nat) (w:gr):
  Calls prog 215 #[nI g n cap] w λe w'=>e=ir (.func (.func 281) #[] #[gF w.heap.size])/\w'=w.alloc (gy #[nI g n cap] 200):=by
 go_enter func215,ntmps215;go_wp2;go_ret;simp
def kj.sub {K' : List Nat} {A B : gr} (h:kj K A B) (g:∀k∈K',k∈K):kj K' A B:=λk d=>h k (g k d)
theorem adf (b1 b2:Nat) (n o:List Nat) (v1 v2:gG) (p q:gn->Bool) (w:gr) (V:w.heap[b1]?=some (gy #[v1] 85)) (Y:w.heap[b2]?=some (gy #[v2] 85)) (y:nK n v1 p w) (A:nK o v2 q w):
  nK (b1::b2::(n++o)) (.func (.func 289) #[] #[gF b1,gF b2]) (λs=>p s||q s) w:=by
 refine⟨⟨_,_,rfl,enters_of func289 (by rfl) rfl,λW h s=>?_⟩,λe d=>?_⟩
 .have N:=fO (nR h (by simp) V) 0;have U:=fO (nR h (by simp) Y) 0;dsimp at N U;obtain⟨D,Z,rfl,e1,I⟩:=y.ex;obtain⟨H,a0,rfl,e2,J⟩:=A.ex;have g:=I W (h.sub (λk l=>by simp[l])) s;have m:=J W (h.sub (λk l=>by simp[l])) s;have f1:∀args w,(callFunc D args).run prog w= .ok (.enter D args) w:=e1;have f2:∀args w,(callFunc H args).run prog w= .ok (.enter H args) w:=e2;show Calls prog 289 #[gw s,gF b1,gF b2] W _;cases hps:p s with
  |true=>
   rw[hps]at g;go_enter func289,ntmps289;go_wp21;refine g.mono ?_;rintro e w' ⟨rfl,rfl⟩;go_wp2;go_ret;simp
  |false=>
   rw[hps]at g;generalize q s=r at m|-;go_enter func289,ntmps289;go_wp21;refine g.mono ?_;rintro e w' ⟨rfl,rfl⟩;go_wp21;refine m.mono ?_;rintro e w' ⟨rfl,rfl⟩;go_wp2;go_ret;simp
 .simp at d;rcases d with rfl|rfl|d|d
  .grind
  .grind
  .exact y.lt e d
  .exact A.lt e d
theorem ZP (b1 b2:Nat) (n o:List Nat) (v1 v2:gG) (p q:gn->Bool) (w:gr) (V:w.heap[b1]?=some (gy #[v1] 85)) (Y:w.heap[b2]?=some (gy #[v2] 85)) (y:nK n v1 p w) (A:nK o v2 q w):
  nK (b1::b2::(n++o)) (.func (.func 314) #[] #[gF b1,gF b2]) (λs=>p s&&!q s) w:=by
 refine⟨⟨_,_,rfl,enters_of func314 (by rfl) rfl,λW h s=>?_⟩,λe d=>?_⟩
 .have N:=fO (nR h (by simp) V) 0;have U:=fO (nR h (by simp) Y) 0;dsimp at N U;obtain⟨D,Z,rfl,e1,I⟩:=y.ex;obtain⟨H,a0,rfl,e2,J⟩:=A.ex;have g:=I W (h.sub (λk l=>by simp[l])) s;have m:=J W (h.sub (λk l=>by simp[l])) s;have f1:∀args w,(callFunc D args).run prog w= .ok (.enter D args) w:=e1;have f2:∀args w,(callFunc H args).run prog w= .ok (.enter H args) w:=e2;show Calls prog 314 #[gw s,gF b1,gF b2] W _;cases hps:p s with
  |true=>
   rw[hps]at g;generalize q s=r at m|-;go_enter func314,ntmps314;go_wp21;refine g.mono ?_;rintro e w' ⟨rfl,rfl⟩;go_wp21;refine m.mono ?_;rintro e w' ⟨rfl,rfl⟩;go_wp2;go_ret;simp
  |false=>
   rw[hps]at g;go_enter func314,ntmps314;go_wp21;refine g.mono ?_;rintro e w' ⟨rfl,rfl⟩;go_wp2;go_ret;simp
 .simp at d;rcases d with rfl|rfl|d|d
  .grind
  .grind
  .exact y.lt e d
  .exact A.lt e d
theorem aax (b1:Nat) (h:List Nat) (v1:gG) (p:gn->Bool) (w:gr) (y:w.heap[b1]?=some (gy #[v1] 85)) (m:nK h v1 p w):
  nK (b1::h) (.func (.func 288) #[] #[gF b1]) (λs=>!p s) w:=by
 refine⟨⟨_,_,rfl,enters_of func288 (by rfl) rfl,λW l s=>?_⟩,λe d=>?_⟩
 .have q:=fO (nR l (by simp) y) 0;dsimp at q;obtain⟨n,D,rfl,e1,o⟩:=m.ex;have g:=o W (l.sub (λk A=>by simp[A])) s;have H:∀args w,(callFunc n args).run prog w= .ok (.enter n args) w:=e1;show Calls prog 288 #[gw s,gF b1] W _;generalize p s=r at g|-;go_enter func288,ntmps288;go_wp21;refine g.mono ?_;rintro e w' ⟨rfl,rfl⟩;go_wp2;go_ret;simp
 .simp at d;rcases d with rfl|d
  .grind
  .exact m.lt e d
def aaH (g l:List Nat) (v1 v2:gG) (p q:gn->Bool) (w:gr) (n:nK g v1 p w) (o:nK l v2 q w):
  Calls prog 235 #[v1,v2] w λe w'=>(∃v,e=ir v/\nK (w.heap.size::(w.heap.size+1)::(g++l)) v (λs=>p s||q s) w'/\w'.heap[w.heap.size]?=some (gy #[v1] 85)/\w'.heap[w.heap.size+1]?=some (gy #[v2] 85))/\Kept [] w w':=by
 have h:Calls prog 235 #[v1,v2] w λe w'=>e=ir (.func (.func 289) #[] #[gF w.heap.size,gF (w.heap.size+1)])/\w'=(w.alloc (gy #[v1] 85)).alloc (gy #[v2] 85):=by
  obtain⟨y,A,rfl,_,_⟩:=n.ex;obtain⟨d,D,rfl,_,_⟩:=o.ex;go_enter func235,ntmps235;go_wp2;go_ret;exact⟨by simp,rfl⟩
 refine h.mono ?_;rintro e w' ⟨rfl,rfl⟩;have y:Kept [] w (w.alloc (gy #[v1] 85)):=(Kept.refl _ _).alloc _;have d:=y.alloc (gy #[v2] 85);have m:=fQ (w.alloc (gy #[v1] 85)) (gy #[v2] 85);rw[yc]at m;exact⟨⟨_,rfl,adf _ _ g l v1 v2 p q _ ((Below.heap_alloc _ _ _ (by simp)).trans (fQ w _)) m (n.ib d) (o.ib d),(Below.heap_alloc _ _ _ (by simp)).trans (fQ w _),m⟩,d⟩
def Xb (g l:List Nat) (v1 v2:gG) (p q:gn->Bool) (w:gr) (n:nK g v1 p w) (o:nK l v2 q w):
  Calls prog 270 #[v1,v2] w λe w'=>(∃v,e=ir v/\nK (w.heap.size::(w.heap.size+1)::(g++l)) v (λs=>p s&&!q s) w'/\w'.heap[w.heap.size]?=some (gy #[v1] 85)/\w'.heap[w.heap.size+1]?=some (gy #[v2] 85))/\Kept [] w w':=by
 have h:Calls prog 270 #[v1,v2] w λe w'=>e=ir (.func (.func 314) #[] #[gF w.heap.size,gF (w.heap.size+1)])/\w'=(w.alloc (gy #[v1] 85)).alloc (gy #[v2] 85):=by
  obtain⟨y,A,rfl,_,_⟩:=n.ex;obtain⟨d,D,rfl,_,_⟩:=o.ex;go_enter func270,ntmps270;go_wp2;go_ret;exact⟨by simp,rfl⟩
 refine h.mono ?_;rintro e w' ⟨rfl,rfl⟩;have y:Kept [] w (w.alloc (gy #[v1] 85)):=(Kept.refl _ _).alloc _;have d:=y.alloc (gy #[v2] 85);have m:=fQ (w.alloc (gy #[v1] 85)) (gy #[v2] 85);rw[yc]at m;exact⟨⟨_,rfl,ZP _ _ g l v1 v2 p q _ ((Below.heap_alloc _ _ _ (by simp)).trans (fQ w _)) m (n.ib d) (o.ib d),(Below.heap_alloc _ _ _ (by simp)).trans (fQ w _),m⟩,d⟩
def Yp (d:List Nat) (v1:gG) (p:gn->Bool) (w:gr) (l:nK d v1 p w):
  Calls prog 234 #[v1] w λe w'=>(∃v,e=ir v/\nK (w.heap.size::d) v (λs=>!p s) w'/\w'.heap[w.heap.size]?=some (gy #[v1] 85))/\Kept [] w w':=by
 have h:Calls prog 234 #[v1] w λe w'=>e=ir (.func (.func 288) #[] #[gF w.heap.size])/\w'=w.alloc (gy #[v1] 85):=by
  obtain⟨g,m,rfl,_,_⟩:=l.ex;go_enter func234,ntmps234;go_wp2;go_ret;exact⟨rfl,rfl⟩
 refine h.mono ?_;rintro e w' ⟨rfl,rfl⟩;have g:Kept [] w (w.alloc (gy #[v1] 85)):=(Kept.refl _ _).alloc _;exact⟨⟨_,rfl,aax _ d v1 p _ (fQ w _) (l.ib g),fQ w _⟩,g⟩
open Go.ChangeMaps (setBlock)
theorem Ti (a b:gn):(a==b)=kh a b:=by
 have h:(a==b)=(a.data==b.data):=rfl;rw[h];by_cases e:a=b
 .grind[kh]
 .rw[Xx.2 e];have:a.data≠b.data:=λd=>e (by cases a;simp_all);grind
def kvE (e:MapEntry):gG×gG:=(e.key,e.val)
def kvP (p:gn×gG):gG×gG:=(gw p.1,p.2)
def XD:List (gn×gG)->gn->Nat->Option (Nat×gG)
 |[],_,_=>none
 |p::L,k,i=>if kh k p.1 then some (i,p.2)else XD L k (i+1)
def zv:List (gn×gG)->gn->Option gG
 |[],_=>none
 |p::L,k=>if kh k p.1 then some p.2 else zv L k
def BN:List (gn×gG)->gn->gG->List (gn×gG)
 |[],k,v=>[(k,v)]
 |p::L,k,v=>if kh k p.1 then (k,v)::L else p::BN L k v
def OV:∀(L:List (gn×gG)) (k:gn) (i:Nat),(XD L k i).map (·.2)=zv L k
 |[],_,_=>rfl
 |p::L,k,i=>by
  unfold XD zv;split
  .rfl
  .exact OV L k (i+1)
def OW:∀(L:List (gn×gG)) (k:gn) (i:Nat) (v:gG),XD L k i=none->BN L k v=L++[(k,v)]
 |[],_,_,_,_=>rfl
 |p::L,k,i,v,h=>by
  unfold XD at h;split at h
  .cases h
  .rename_i d;unfold BN;rw[gI d,OW L k (i+1) v h];rfl
theorem OX:∀(L:List (gn×gG)) (k:gn) (i j:Nat) (u v:gG),XD L k i=some (j,u)->∃n,j=i+n/\n < L.length/\(L[n]?).map (·.1)=some k/\BN L k v=L.set n (k,v)
 |[],_,_,_,_,_,h=>by cases h
 |p::L,k,i,j,u,v,h=>by
  unfold XD at h;split at h
  .rename_i d;cases h;refine⟨0,rfl,by simp,?_,?_⟩
   .simp[(wL.1 d)]
   grind[BN]
  .rename_i d;have⟨n,e1,e2,e3,e4⟩:=OX L k (i+1) j u v h;refine⟨n+1,by omega,by grind,by grind,?_⟩;grind[BN]
theorem MI (k:gn):∀(d:List MapEntry) (L:List (gn×gG)) (i:Nat),d.map kvE=L.map kvP->Instr.findNow .string (gw k) d i=some (XD L k i)
 |[],[],_,_=>rfl
 |[],_::_,_,h=>by simp at h
 |_::_,[],_,h=>by simp at h
 |e::d,p::L,i,h=>by
  simp only[y8,QP]at h;have g:e.key=gw p.1:=pJ Prod.fst h.1;have l:e.val=p.2:=pJ Prod.snd h.1;unfold Instr.findNow XD;simp only[g,Instr.sameNow,Ti];cases hf:kh k p.1
  .exact MI k d L (i+1) h.2
  grind
def rP (w:gr) (b:Nat) (L:List (gn×gG)):Prop:=∃g d,w.heap[b]?=some (.map g d)/\g.toList.map kvE=L.map kvP
theorem rP.keeps (h:rP w b L) (e:w'.heap[b]?=w.heap[b]?):rP w' b L:=by
 grind[rP]
theorem rP.lt (h:rP w b L):b < w.heap.size:=by
 have⟨es,clock,ha,_⟩:=h;grind
def rP.kept (h:rP w b L) (g:Kept S w w') (d:b∉S):rP w' b L:=h.keeps (g.block b h.lt d)
def rP.new (w:gr):rP (w.alloc (.map #[] 0)) w.heap.size []:=⟨#[],0,fQ w _,rfl⟩
theorem zR (h:Kept S a w) (l:b∈S\/a.heap.size<=b) (o:Obj):Kept S a (setBlock w b o):=
 ⟨h.os,h.tape,h.output,by show a.heap.size<=(w.heap.setIfInBounds b o).size;rw[QQ];exact h.size,λk d g=>by
  show(w.heap.setIfInBounds b o)[k]?=_;rw[DW (by grind)];exact h.block k d g⟩
theorem DG (h:b < w.heap.size) (o:Obj):(setBlock w b o).heap[b]?=some o:=by
 show(w.heap.setIfInBounds b o)[b]?=_;grind
def EF {E : TypeId} {z : gG} (l:prog.underlying T=some (.map 9 E)) (o:∀w,(zeroValue E).run prog w= .ok z w) (h:rP w b L) (k:gn):
  (Instr.lookup T (.map (some b)) (gw k) false).run prog w= .ok ((zv L k).getD z) w:=by
 have⟨es,clock,ha,hl⟩:=h;have n:(underlying 9).run prog w= .ok .string w:=qv underlying9 _;have m:∀x,(Instr.checkKey x 10000 9 (gw k)).run prog w= .ok () w:=λx=>by
  unfold Instr.checkKey;simp
 have d:=MI k es.toList L 0 hl;have g:=OV L k 0;cases hq:XD L k 0 with
 |none=>
  rw[hq]at d g;rw[<-g];simp[Instr.lookup,qv l,JG ha,m,Instr.findKey,n,d,o,Result.andThen]
 |some p=>
  rw[hq]at d g;rw[<-g];simp[Instr.lookup,qv l,JG ha,m,Instr.findKey,n,d,Result.andThen]
theorem Qc {E : TypeId} (y:prog.underlying T=some (.map 9 E)) (h:rP w b L) (k:gn) (v:gG):
  ∃w',(Instr.mapUpdate T (.map (some b)) (gw k) v).run prog w= .ok () w'/\rP w' b (BN L k v)/\Kept [b] w w'/\w'.heap.size=w.heap.size:=by
 have g:=h.lt;have⟨es,clock,ha,hl⟩:=h;have H:(underlying 9).run prog w= .ok .string w:=qv underlying9 _;have A:∀x,(Instr.checkKey x 10000 9 (gw k)).run prog w= .ok () w:=λx=>by
  unfold Instr.checkKey;simp
 have l:=MI k es.toList L 0 hl;cases hq:XD L k 0 with
 |none=>
  rw[hq]at l;refine⟨setBlock w b (.map (es.push {key:=gw k,val:=v,born:=clock}) (clock+1)),?_,⟨_,_,DG g _,?_⟩,zR (Kept.refl _ _) (.inl (by simp)) _,?_⟩
  .simp[Instr.mapUpdate,qv y,JG ha,A,Instr.findKey,H,l,setObj,Sem.run,ha,setBlock,Result.andThen]
  .rw[OW L k 0 v hq];simp[hl,kvE,kvP]
  .show(w.heap.setIfInBounds b _).size=_;simp
 |some p=>
  have⟨j,u⟩:=p;rw[hq]at l;have⟨n,hj,hn,hkey,hput⟩:=OX L k 0 j u v hq;have o:j=n:=by omega
  subst o;have D:es.size=L.length:=by have:=pJ List.length hl;simpa using this
  have m:(es[j]?).map (·.key)=some (gw k):=by
   have d:(es.toList.map kvE)[j]?=(L.map kvP)[j]?:=by rw[hl]
   rw[List.getElem?_map,List.getElem?_map]at d;rw[Uo]at d;rw[qw hn]at hkey d;rw[wu (by omega)]at d|-;simp[kvE,kvP]at d hkey|-;rw[d.1,hkey]
  refine⟨setBlock w b (.map (es.modify j λe=>{e with key:=gw k,val:=v}) clock),?_,⟨_,_,DG g _,?_⟩,zR (Kept.refl _ _) (.inl (by simp)) _,?_⟩
  .have I:(Instr.keyThatStays (((es[j]?).map (·.key)).getD (gw k)) (gw k)).run prog w= .ok (gw k) w:=by
    rw[m];have q:(k==k)=true:=by rw[Ti];exact wL.2 rfl
    simp[Instr.keyThatStays,Instr.sameBits,q]
   simp[Instr.mapUpdate,qv y,JG ha,A,Instr.findKey,H,l,I,setObj,Sem.run,ha,setBlock,Result.andThen]
  .rw[hput];apply List.ext_getElem?;intro i;have d:(es.toList.map kvE)[i]?=(L.map kvP)[i]?:=by rw[hl]
   grind[kvE,kvP]
  .show(w.heap.setIfInBounds b _).size=_;simp
section
variable {P:Program} {ops:Array Oper} {Q:Exit->Act->gr->Prop} {md:Region.Mode}
theorem ER {I:Array Bool->Act->gr->Prop}
  (o:∀d a w i,I d a w->i∈Region.ready md ops d->wpOp P ops Q i (I (d.setIfInBounds i true)) a w)
  (l:∀d a w,I d a w->Region.ready md ops d=[]->Q .normal a w):
  ∀g d a w,((List.range ops.size).filter (λi=>!d.getD i true)).length<=g->I d a w->wpAny P md ops Q g d a w:=by
 intro g
 induction g with
 |zero=>
  intro d a w Z y;have A:(List.range ops.size).filter (λi=>!d.getD i true)=[]:=SZ (by omega);have J:Region.ready md ops d=[]:=by
   unfold Region.ready;rw[Zj]at A|-;intro i m D;apply A i m;rw[qx]at D;exact D.1
  exact⟨J,l _ _ _ y J⟩
 |succ n ih=>
  intro d a w Z y;refine⟨l _ _ _ y,λi m=>wpOp_mono (λN w' U=>ih _ N w' ?_ U) (o _ _ _ i y m)⟩;have q:i∈(List.range ops.size).filter (λi=>!d.getD i true):=by
   unfold Region.ready at m;rw[QS,qx]at m;exact List.mem_filter.2 ⟨m.1,m.2.1⟩
  have H:d.getD i true=false:=by
   have:=(List.mem_filter.1 q).2
   simpa using this
  have Y:i < d.size:=by
   apply Decidable.byContradiction;intro h;rw[QT,Zk (by omega)]at H;simp at H
  have e:(List.range ops.size).filter (λj=>!(d.setIfInBounds i true).getD j true)=((List.range ops.size).filter (λj=>!d.getD j true)).filter (λj=>j != i):=by
   rw[List.filter_filter];refine List.filter_congr λj _=>?_;by_cases V:j=i
   .simp_all
   .have:i≠j:=λh=>V h.symm;simp_all
  rw[e];have:(((List.range ops.size).filter (λj=>!d.getD j true)).filter (λj=>j != i)).length < ((List.range ops.size).filter (λj=>!d.getD j true)).length:=by
   rw[List.length_filter_lt_length_iff_exists];exact⟨i,q,by simp⟩
  omega
end
def dn (z:Array Bool) (k:Nat):Bool:=z.getD k true
def cd (z:Array Bool) (k:Nat) (v:gG):gG:=cond (dn z k) v undef
def uG (md:Region.Mode) (ops:Array Oper) (i:Nat):List Nat:=
 match ops[i]? with|some o=>(o.after.toList.filter (Region.binds md)).map (·.on)|none=>[]
def pi:dn (z.setIfInBounds k true) k=true:=by
 simp[dn]
def lR (h:k≠j):dn (z.setIfInBounds k true) j=dn z j:=getD_set_ne true h
def ph {p : Prop} (h:dn z j=true->p) (d:k≠j):dn (z.setIfInBounds k true) j=true->p:=by
 rw[lR d];exact h
theorem kX (h:dn z k=true):cd z k v=v:=by unfold cd;grind
theorem abM (h:dn z k=false):cd z k v=undef:=by unfold cd;grind
def ot:cd (z.setIfInBounds k true) k v=v:=kX pi
def uP (h:k≠j):cd (z.setIfInBounds k true) j v=cd z j v:=by
 unfold cd;rw[lR h]
def ce (z:Array Bool) (k:Nat) (u v:gG):gG:=cond (dn z k) v u
theorem vI (h:dn z k=true):ce z k u v=v:=by unfold ce;grind
def uY:ce (z.setIfInBounds k true) k u v=v:=vI pi
def Cu (h:k≠j):ce (z.setIfInBounds k true) j u v=ce z j u v:=by
 unfold ce;rw[lR h]
theorem uH {n : Nat}:dn (Array.replicate n true) k=true:=by
 unfold dn;rw[QT,Array.getElem?_replicate];grind
def uF {n : Nat}:cd (Array.replicate n true) k v=v:=kX uH
def Ms {n : Nat}:ce (Array.replicate n true) k u v=v:=vI uH
def lp {p : Nat->Prop}:∀k < 0,p k:=λ_ h=>absurd h (Nat.not_lt_zero _)
theorem ln {p : Nat->Prop} {n : Nat} (t:∀k < n,p k) (h:p n):∀k < n+1,p k:=λk d=>by
 grind
def zE (z:Array Bool) (i:Nat):List Nat->Prop
 |[]=>dn z i=false
 |j::l=>dn z j=true/\zE z i l
def Te (h:z.getD i true=false):∀{l:List Nat},(∀j∈l,z.getD j true=true)->zE z i l
 |[],_=>h
 |j::l,hl=>⟨hl j (tl ..),Te h λk d=>hl k (pX _ d)⟩
def yq (md:Region.Mode) (ops:Array Oper):List (List Nat):=(List.range ops.size).map (uG md ops)
def Yi:Nat->List (List Nat)->Bool
 |_,[]=>true
 |i,l::ls=>l.all (· < i)&&Yi (i+1) ls
theorem TM:∀{d:List (List Nat)} {i k:Nat} {l:List Nat},Yi i d=true->d[k]?=some l->∀j∈l,j < i+k
 |l'::d,i,0,l,h,hk,j,hj=>by
  simp at hk;subst hk;simp[Yi]at h;grind
 |l'::d,i,k+1,l,h,hk,j,hj=>by
  simp[Yi]at h;have:=TM (i:=i+1) (k:=k) h.2 (by grind) j hj;omega
def ZV:List (List Nat)->List (List Nat)->List (List Nat)
 |acc,[]=>acc
 |acc,l::ls=>ZV (acc++[(l++l.flatMap λj=>acc.getD j []).eraseDups]) ls
theorem Fq:∀(m d:List (List Nat)),(∀k,dn z k=true->∀j∈d.getD k [],dn z j=true)->
  (∀k l,m[k]?=some l->dn z (d.length+k)=true->∀j∈l,dn z j=true)->∀k,dn z k=true->∀j∈(ZV d m).getD k [],dn z j=true
 |[],d,h,_=>h
 |l::m,d,h,hl=>by
  refine Fq m _ ?_ ?_
  .intro k n j g;rw[yd]at g;by_cases q:k < d.length
   .rw[Up q]at g;exact h k n j (by grind)
   .by_cases y:k=d.length
    .subst y;simp at g;have o:=hl 0 l rfl n;rcases g with g|⟨i,A,g⟩
     .grind
     .exact h i (o i A) j (by grind)
    grind
  .intro k D n H j g;refine hl (k+1) D (by grind) ?_ j g;grind
theorem Ou:∀(m d:List (List Nat)),(∀k,∀j∈d.getD k [],j < k)->(∀k l,m[k]?=some l->∀j∈l,j < d.length+k)->∀k,∀j∈(ZV d m).getD k [],j < k
 |[],d,h,_=>h
 |l::m,d,h,hl=>by
  refine Ou m _ ?_ ?_
  .intro k j g;rw[yd]at g;by_cases y:k < d.length
   .grind
   .by_cases n:k=d.length
    .subst n;simp at g;have q:=hl 0 l rfl;rcases g with g|⟨i,A,g⟩
     .grind
     .have:=h i j (by grind);grind
    grind
  .intro k o D j g;have:=hl (k+1) o (by grind) j g;grind
def okT (n:Nat) (md:Region.Mode) (ops:Array Oper) (d:List (List Nat)):Bool:=
 d.length==ops.size&&n==ops.size&&Yi 0 (yq md ops)&&(List.range ops.size).all λi=>(d.getD i []).all λj=>((ZV [] (yq md ops)).getD i []).contains j
section
variable {P:Program} {ops:Array Oper} {Q:Exit->Act->gr->Prop} {md:Region.Mode} {G:Type}
theorem od (mk:G->Array Bool->Act) (I:G->Array Bool->gr->Prop) (n:Nat) (y:List (List Nat)) {a:Act} {w:gr} (g:G)
  (N:okT n md ops y=true) (ha:a=mk g (Array.replicate n false)) (h0:I g (Array.replicate n false) w)
  (hs:∀i < n,∀g z W,I g z W->zE z i (y.getD i [])->(∀j,i∈y.getD j []->dn z j=false)->
   wpOp P ops Q i (λa W'=>∃g,a=mk g (z.setIfInBounds i true)/\I g (z.setIfInBounds i true) W') (mk g z) W)
  (hd:∀g W,I g (Array.replicate n true) W->Q .normal (mk g (Array.replicate n true)) W):
  wpAny P md ops Q ops.size (Array.replicate ops.size false) a w:=by
 subst ha;simp only[okT,qx,beq_iff_eq,LW,QU]at N;have⟨⟨⟨hnd,hn⟩,hl0⟩,hsub⟩:=N;have V:∀i < ops.size,∀j∈uG md ops i,j < i:=by
  intro i U j d;have:=TM (i:=0) (k:=i) (l:=uG md ops i) hl0 (by simp[yq,U]) j d;omega
 rw[hn]at h0 hs hd|-;have a5:∀i < ops.size,∀j∈y.getD i [],j < i:=by
  intro i U j d;have Z:=hsub i U j d;refine Ou (yq md ops) [] (by simp) (λk l q=>?_) i j (by simpa using Z);have D:k < ops.size:=by simpa [yq]using (List.getElem?_eq_some_iff.1 q).1
  have:l=uG md ops k:=by simpa [yq,D]using q.symm
  subst this
  simpa using V k D
 have J:∀z:Array Bool,(∀j,dn z j=true->∀k∈uG md ops j,dn z k=true)->∀i < ops.size,dn z i=true->∀j∈y.getD i [],dn z j=true:=by
  intro z Y i U hd j d;refine Fq (yq md ops) [] (by simp) ?_ i hd j (by grind);intro k l q hd j d;have D:k < ops.size:=by simpa [yq]using (List.getElem?_eq_some_iff.1 q).1
  have:l=uG md ops k:=by simpa [yq,D]using q.symm
  subst this;exact Y k (by simpa using hd) j d
 have a3:∀z:Array Bool,z.size=ops.size->∀i,i∈Region.ready md ops z->z.getD i true=false/\i < ops.size/\∀j∈uG md ops i,z.getD j true=true:=by
  intro z Y i U;have⟨a,o,ho,A⟩:=mem_ready.1 U;refine⟨a,(Array.getElem?_eq_some_iff.1 ho).1,λj d=>?_⟩;simp only[uG,ho,List.mem_map,QS]at d;obtain⟨e,⟨he,hb⟩,rfl⟩:=d;have Z:=A e (by simpa using he) hb;rw[QT]at Z|-;cases hx:z[e.on]? with
  |none=>rfl
  |some b=>grind
 refine ER (I:=λz a W=>(z.size=ops.size/\∀j,dn z j=true->∀k∈uG md ops j,dn z k=true)/\∃g,a=mk g z/\I g z W) ?_ ?_ _ _ _ _ ?_ ⟨⟨by simp,λj d k q=>?_⟩,g,rfl,h0⟩
 .rintro z a W i ⟨⟨Y,a0⟩,g,rfl,hI⟩ U;have⟨a,b,c⟩:=a3 z Y i U;have H:∀j,dn (z.setIfInBounds i true) j=true->∀k∈uG md ops j,dn (z.setIfInBounds i true) k=true:=by
   intro j d k q;have:dn z k=true:=by
    by_cases a1:i=j
    .subst a1;exact c k q
    .rw[lR a1]at d;exact a0 j d k q
   by_cases a2:i=k
   .subst a2;exact pi
   .rw[lR a2];omega
  refine wpOp_mono (λa' W' h=>⟨⟨by simpa using Y,λj d k q=>?_⟩,h⟩) (hs i b g z W hI (Te a λj d=>?_) λj d=>?_)
  .exact H j d k q
  .have hl:=a5 i b j d;have:=J _ H i b pi j d
   rwa [lR (by omega)]at this
  .rw[<-Bool.not_eq_true];intro a4;by_cases m:j < ops.size
   .have:=J z a0 j m a4 i d;rw[show dn z i=false from a]at this;cases this
   grind
 .rintro z a W ⟨⟨Y,_⟩,g,rfl,hI⟩ hr;have A:∀i,∀j≤i,z.getD j true=true:=by
   intro i
   induction i with
   |zero=>?_
   |succ i ih=>?_
   all_goals
    intro j d;rw[<-Bool.not_eq_false];intro hf;have m:j < ops.size:=by
     rw[<-Y];apply Decidable.byContradiction;intro h;rw[QT,Zk (by omega)]at hf;simp at hf
    have:j∈Region.ready md ops z:=by
     refine mem_ready.2 ⟨hf,ops[j],by simp,λe he hb=>?_⟩;have hl:=V j m e.on (by simp only[uG,wu m,List.mem_map,QS];grind)
     first
     |omega
     |grind
    grind
  have a6:z=Array.replicate ops.size true:=by
   apply Array.ext
   .simpa using Y
   .intro i Z h2;have:=A i i (gW _);rw[QT,wu Z]at this
    simpa using this
  grind
 .grind
 .by_cases m:j < ops.size
  .simp[dn,m]at d
  .simp[uG,Zk (Nat.le_of_not_lt m)]at q
end
inductive Nd
 |el (k:Nat)
 |tx (k:Nat)
 |cm (k:Nat)
 |dt (k:Nat)
def Nd.val:Nd->gG
 | .el k=> .iface 65 (gF k)
 | .tx k=> .iface 277 (gF k)
 | .cm k=> .iface 233 (gF k)
 | .dt k=> .iface 237 (gF k)
def Nd.one (n:Nd):n.val.oneCell'=true:=by cases n<;>rfl
def TQ (ns:List Nd):∀x∈ns.map Nd.val,x.oneCell'=true:=by
 intro u d;obtain⟨x,_,rfl⟩:=List.mem_map.1 d;exact x.one
structure El (base:Nat) (w:gr) (k:Nat) (name:gn) (av:gG) (ja:jb) (kv:gG) (ns:List Nd):Prop where
 ik:w.heap[k]?=some (gy #[gw name,av,jY ja,kv] 136)
 row:w.ownsRow base 138 1 kv ns.length (ns.map Nd.val)
 le:ns.length<=1048576
 Tg:∃ao n c,av= .slice ao n c
theorem El.nj {ns:List Nd} (h:El base w k name av ja kv ns) (m:w.heap[b]?=some (gy c t)) (o:t≠138):kv.ownBlock≠some b:=by
 intro d;rcases h.row.2 with⟨e,_⟩|⟨g,cap,l,e,_,n,_⟩
 .rw[e]at d;cases d
 .rw[e]at d;obtain rfl:=jz d;grind
def El.kept {ns:List Nd} (h:El base w k name av ja kv ns) (d:Kept S w w') (l:k∉S) (m:∀g,kv.ownBlock=some g->g∉S):El base w' k name av ja kv ns:=
 ⟨d.at h.ik l,d.ownsRow h.row m,h.le,h.Tg⟩
abbrev place (k n:Nat):gG:= .agg #[gF k,ga n]
def acG (base k:Nat) (name:gn) (av kv:gG) (ja:jb) (ns:List Nd) (w:gr) (h:El base w k name av ja kv ns):
  Calls prog 89 #[gF k] w λe w'=>e=ir (place k ns.length)/\Kept [] w w':=by
 obtain⟨ao,cap,rfl⟩:=gv h.row;have g:=fO h.ik 3;dsimp at g;have l:=je h.ik;have d:=(Kept.refl [] w).alloc (gy #[gF k,ga ns.length] 231);go_enter func89,ntmps89;go_wp2;refine o0 (v:=place k ns.length) ?_ rfl ⟨rfl,d⟩;simp[results,results89,asAddr,Result.andThen,go_sem]
def GP (base k:Nat) (name:gn) (av kv:gG) (ja:jb) (ns:List Nd) (w:gr) (h:El base w k name av ja kv ns):
  Calls prog 265 #[gF k] w λe w'=>e=ir (gF w.heap.size)/\El base w' w.heap.size name av none (jV) []/\Kept [] w w':=by
 have o:w.drew.cell? ⟨k,0,none⟩=some (gw name):=by show w.cell? _=_;rw[fO h.ik];rfl
 have q:w.drew.cell? ⟨k,1,none⟩=some av:=by show w.cell? _=_;rw[fO h.ik];rfl
 have g:=(Kept.refl [] w).drew.alloc (gy #[gw name,av,.pointer none,jV] 136);have d:=(show El base (w.drew.alloc (gy #[gw name,av,.pointer none,jV] 136)) w.heap.size name av none (jV) []from⟨fQ w.drew _,py _ _ _ _,by simp,h.Tg⟩);obtain⟨l,n,m,rfl⟩:=h.Tg;go_enter func265,ntmps265;go_wp21;go_region;go_wp2;go_ret;exact⟨rfl,d,g⟩
theorem El.T7 {d : gG} {ns l:List Nd} (h:El base w k name av ja kv ns) (y:w'.heap[k]?=w.heap[k]?) (o:w'.ownsRow base 138 1 d l.length (l.map Nd.val)) (A:l.length<=1048576):El base (w'.setCell ⟨k,3,none⟩ d) k name av ja d l:=by
 have n:=y.trans h.ik;refine⟨fV n 3 d,yb (a:=⟨k,3,none⟩) o ?_ _,A,h.Tg⟩;intro m;rcases o.2 with⟨e,_⟩|⟨g,cap,q,e,_,D,_⟩
 .rw[e]at m;cases m
 .rw[e]at m;obtain rfl:=jz m;grind
def El.YT {ns:List Nd} (h:El base w k name av ja kv ns) (p:jb):El base (w.setCell ⟨k,2,none⟩ (jY p)) k name av p kv ns:=
 ⟨fV h.ik 2 (jY p),yb (a:=⟨k,2,none⟩) h.row (h.nj h.ik (by decide)) _,h.le,h.Tg⟩
def kK {a : Addr} (h:b≠a.block):(w.setCell a u).cell? ⟨b,j,none⟩=w.cell? ⟨b,j,none⟩:=Zf (Below.heap_setCell w a u b h)
def Ub {X e : TypeId} (d:prog.underlying X=some (.pointer e)) (v:gG) (g:TypeId) (w:gr):(Instr.typeAssert (.iface X v) g X true).run prog w= .ok (.tuple #[v,.bool true]) w:=by
 simp[Instr.typeAssert,qv d]
def EK {X e : TypeId} (h:prog.underlying X=some (.pointer e)) (g:(prog.info? X).bind (·.zero)=some (.pointer none)) (d:T≠X) (v:gG) (l:TypeId) (w:gr):(Instr.typeAssert (.iface T v) l X true).run prog w= .ok (.tuple #[.pointer none,.bool false]) w:=by
 have⟨i,hi,g⟩:=Option.bind_eq_some_iff.1 g;simp[Instr.typeAssert,qv h,d,zeroValue,typeInfo,hi,g]
structure Wz (base k:Nat) (name:gn) (av kv:gG) (ja:jb) (ns:List Nd) (w w':gr):Prop where
 ex:∃kv',El base w' k name av ja kv' ns/\(kv'.ownBlock=kv.ownBlock\/∀g,kv'.ownBlock=some g->w.heap.size<=g)
 kept:Kept (k::kv.ownBlock.toList) w w'
def Oa (base k n:Nat) (name:gn) (av:gG) (ja:jb) (ao:Option Addr) (cap:Nat) (ns:List Nd) (x:Nd) (o:TypeId) (m:gG) (w w1:gr) (b10 b11 l:Bool) (d:gG) (W:gr):Prop:=
 if l then Wz base k name av (.slice ao ns.length cap) ja (ns.take n++[x]++ns.drop n) w W/\W.heap[w.heap.size]?=some (gy #[gF k,ga n] 231)
 else if b11 then W.ownsRow base 138 1 d (ns.length+1) ((ns.map Nd.val).take n++[.iface o m]++(ns.map Nd.val).drop n)/\Kept (Value.slice ao ns.length cap).ownBlock.toList w1 W/\(d.ownBlock=(Value.slice ao ns.length cap).ownBlock\/∀g,d.ownBlock=some g->w1.heap.size+1<=g)
 else if b10 then ∃h,Kept [] w1 h/\h.heap.size=w1.heap.size/\W=h.alloc (gy #[.iface o m] 138)
 else Kept [] w1 W/\W.heap.size=w1.heap.size
def Oa.ik {n : Nat} {ns:List Nd} {x:Nd} {y : TypeId} {q : gG} {b10 b11 d : Bool} {l : gG} (h:Oa base k n name av ja ao cap ns x y q w w1 b10 b11 d l W) (g:w1.heap[w.heap.size]?=some (gy #[gF k,ga n] 231)) (m:w.heap.size∉(Value.slice ao ns.length cap).ownBlock.toList):W.heap[w.heap.size]?=some (gy #[gF k,ga n] 231):=by
 unfold Oa at h;split at h
 .exact h.2
 split at h
 .exact h.2.1.at g m
 split at h
 .obtain⟨A,o,_,rfl⟩:=h;exact(o.alloc _).at g (by simp)
 .exact h.1.at g (by simp)
theorem Oa.old {n : Nat} {ns:List Nd} {x:Nd} {m : TypeId} {l : gG} {b10 : Bool} {d : gG} (h:Oa base k n name av ja ao cap ns x m l w w1 b10 false false d W):Kept [] w1 W:=by
 unfold Oa at h;simp only[wX,↓reduceIte]at h;split at h
 .obtain⟨o,g,_,rfl⟩:=h;exact g.alloc _
 grind
theorem aaW {n : Nat} {ns:List Nd} {v' : gG} {h d : gr} (q:Kept [] w1 h) (A:h.heap.size=w1.heap.size) (o:W=h.alloc (gy #[u] 138)) (m:d.ownsRow base 138 1 v' (ns.length+1) ((ns.map Nd.val).take n++[u]++(ns.map Nd.val).drop n)) (l:Kept (Value.slice ao ns.length cap).ownBlock.toList W d) (y:v'.ownBlock=(Value.slice ao ns.length cap).ownBlock\/∀k,v'.ownBlock=some k->W.heap.size<=k):
  d.ownsRow base 138 1 v' (ns.length+1) ((ns.map Nd.val).take n++[u]++(ns.map Nd.val).drop n)/\Kept (Value.slice ao ns.length cap).ownBlock.toList w1 d/\(v'.ownBlock=(Value.slice ao ns.length cap).ownBlock\/∀g,v'.ownBlock=some g->w1.heap.size+1<=g):=by
 subst o;refine⟨m,((q.alloc _).mono (by simp)).trans l,?_⟩;simp_all
theorem aaV {n : Nat} {h : Option Addr} {d : Nat} {ns:List Nd} {x:Nd} (l:El base w1 k name av ja (.slice ao ns.length cap) ns) (V:Kept [] w w1) (z1:w1.heap.size=w.heap.size+1) (N:w1.heap[w.heap.size]?=some (gy #[gF k,ga n] 231)) (A:k∉(Value.slice ao ns.length cap).ownBlock.toList) (q:w.heap.size∉(Value.slice ao ns.length cap).ownBlock.toList) (hn:n<=ns.length) (Z:ns.length < 1048576) (o:w.heap.size≠k) (D:x.val=u)
  (ho:W.ownsRow base 138 1 (.slice h (ns.length+1) d) (ns.length+1) ((ns.map Nd.val).take n++[u]++(ns.map Nd.val).drop n)) (m:Kept (Value.slice ao ns.length cap).ownBlock.toList w1 W) (Y:(Value.slice h (ns.length+1) d).ownBlock=(Value.slice ao ns.length cap).ownBlock\/∀g,(Value.slice h (ns.length+1) d).ownBlock=some g->w1.heap.size+1<=g):
  Wz base k name av (.slice ao ns.length cap) ja (ns.take n++[x]++ns.drop n) w (W.setCell ⟨k,3,none⟩ (.slice h (ns.length+1) d))/\(W.setCell ⟨k,3,none⟩ (.slice h (ns.length+1) d)).heap[w.heap.size]?=some (gy #[gF k,ga n] 231):=by
 have H:(ns.take n++[x]++ns.drop n).length=ns.length+1:=by simp;omega
 have I:(ns.take n++[x]++ns.drop n).map Nd.val=(ns.map Nd.val).take n++[u]++(ns.map Nd.val).drop n:=by simp[D]
 have e2:=m.at l.ik A;have J:=m.at N q;refine⟨⟨⟨.slice h (ns.length+1) d,l.T7 (e2.trans l.ik.symm) (by grind) (by omega),?_⟩,?_⟩,?_⟩
 .grind
 .exact((V.mono (S':=k::(Value.slice ao ns.length cap).ownBlock.toList) (by simp)).next m (λy U=> .inl (pX _ U))).setCell (p:=⟨k,3,none⟩) (.inl (by simp)) _
 .rw[Below.heap_setCell W ⟨k,3,none⟩ _ _ o];exact J
theorem TV (base k n:Nat) (name:gn) (av kv:gG) (ja:jb) (ns:List Nd) (x:Nd) (w:gr) (h:El base w k name av ja kv ns) (a0:n<=ns.length) (hl:ns.length < 1048576) (hb:base<=w.heap.size) (Z:gr->Prop)
  (hZ:∀wc,Wz base k name av kv ja (ns.take n++[x]++ns.drop n) w wc->match x with
   | .el j=>(∃p,wc.cell? ⟨j,2,none⟩=some p)/\wc.frozen? ⟨j,2,none⟩=false/\Z (wc.setCell ⟨j,2,none⟩ (gF k))
   |_=>Z wc):
  Calls prog 165 #[place k n,x.val] w λe w'=>e=o9/\Z w':=by
 have ae:=je h.ik;have a1:=h.row.lt;obtain⟨w1,hw1⟩:∃w1,w1=w.alloc (gy #[gF k,ga n] 231):=⟨_,rfl⟩;have k1:Kept [] w w1:=by rw[hw1];exact(Kept.refl _ _).alloc _
 have g1:w1.heap[w.heap.size]?=some (gy #[gF k,ga n] 231):=by rw[hw1];exact fQ w _
 have z1:w1.heap.size=w.heap.size+1:=by rw[hw1];simp
 have h1:=h.kept k1 (by simp) (by simp);obtain⟨ao,cap,rfl⟩:=gv h.row;have HI:∀W,Kept [] w1 W->W.heap.size=w1.heap.size->Calls prog 256 #[.slice ao ns.length cap,ga n,nI w1.heap.size 1 1] (W.alloc (gy #[x.val] 138)) (Wx 138 base (.slice ao ns.length cap) ns.length n (ns.map Nd.val) x.val (W.alloc (gy #[x.val] 138))):=by
  intro W kW zW;have k2:Kept [] w1 (W.alloc (gy #[x.val] 138)):=kW.alloc _;have g2:=fQ W (gy #[x.val] 138);rw[zW]at g2;exact abR (.inr ⟨rfl,rfl,rfl,rfl,rfl,rfl⟩) base ns.length n w1.heap.size _ x.val (ns.map Nd.val) _ (k2.ownsRow h1.row (λ_ _=>by simp)) g2 (λe=>by grind) x.one (TQ ns) a0 h.le (by grind)
 have l:=fN hZ;have H1:=fN h1;have y:=fN HI;have a2:=fN k1;have J:=fN g1;have a4:=fN z1;have ab:=fN a1;have U:=fN (show k∉(Value.slice ao ns.length cap).ownBlock.toList by simpa using h1.nj h1.ik (by decide));have N:=fN (show w.heap.size∉(Value.slice ao ns.length cap).ownBlock.toList by grind);have a9:w.heap.size≠k:=by omega
 have a3:=fN hw1;clear h h1 HI hZ k1 g1 z1 a1 hw1;obtain⟨H,D,d⟩:∃H D,x.val= .iface H D:=by cases x<;>exact⟨_,_,rfl⟩
 rw[d]at y|-;go_enter func165,ntmps165;go_wp21;rw[<-a3.out]
 go_cut []from 6 to 19 (λwc=>Wz base k name av (.slice ao ns.length cap) ja (ns.take n++[x]++ns.drop n) w wc/\wc.heap[w.heap.size]?=some (gy #[gF k,ga n] 231))
 case first=>
  refine uU (by rfl) ?_;refine od (λ(g:gG) z=>⟨#[place k n,.iface H D,gF w.heap.size,undef,undef,undef,cd z 0 (gF w.heap.size),cd z 1 (gF k),cd z 2 (gF w.heap.size),cd z 3 (gF k),cd z 4 (gF k),cd z 5 (lK k 3),cd z 6 (.slice ao ns.length cap),cd z 7 (lK w.heap.size 1),cd z 8 (ga n),cd z 9 (.iface H D),cd z 10 (nI w1.heap.size 1 1),cd z 11 (g),cd z 12 (gF k),cd z 13 (lK k 3),undef,undef,undef,undef,undef,undef,undef,undef,undef,undef,undef],[]⟩) (λg z W=>Oa base k n name av ja ao cap ns x H D w w1 (dn z 10) (dn z 11) (dn z 14) g W) 15 [[],[0],[],[2],[3],[4],[5],[],[7],[],[9],[2,3,4,5,6,7,8,9,10],[1],[12],[0,1,2,3,4,5,6,7,8,9,10,11,12,13]] (undef) rfl (by rfl) (⟨(Kept.refl [] w1).drew,rfl⟩) ?_ ?_
  .repeat' first|exact lp|refine ln ?_ ?_
   all_goals
    rintro g z W I hc hn;simp[zE]at hc;refine mK rfl ?_;intro K' o;simp only[kX,hc];have gB:=I.ik J N;have ac:W.cell? ⟨w.heap.size,0,none⟩=some (gF k):=by rw[fO gB];rfl
    have ad:W.cell? ⟨w.heap.size,1,none⟩=some (ga n):=by rw[fO gB];rfl
    have q:=I
    try simp only[hc]at q
    try rw[hn 14 (by decide)]at q
    try rw[hn 11 (by decide)]at q
    try (have cK:W.cell? ⟨k,3,none⟩=some (.slice ao ns.length cap):=(by rw[fO (q.old.at H1.out.ik (by simp))];rfl))
    go_simp
    first
    |refine o _ _ ⟨g,?_,(by rw[lR (by decide),lR (by decide),lR (by decide)];exact I)⟩
    |have q:Kept [] w1 W/\W.heap.size=w1.heap.size:=q;refine o _ _ ⟨g,?_,(by rw[pi,lR (by decide),lR (by decide),hn 11 (by decide),hn 14 (by decide)];grind[Oa])⟩;simp[ot,uP,kX,hc,q.2]
    |obtain⟨V,q1,q2,hq⟩:∃V,Kept [] w1 V/\V.heap.size=w1.heap.size/\W=V.alloc (gy #[.iface H D] 138):=q;have C:=fN (y V q1 q2);rw[<-hq]at C;refine C.mono ?_;rintro e W2 ⟨v',rfl,aa,a8,a7⟩;refine o _ _ ⟨v',?_,(by rw[pi,lR (by decide),lR (by decide),hn 14 (by decide)];exact aaW q1 q2 hq aa a8 a7)⟩
    |obtain⟨ho,hk,hf⟩:W.ownsRow base 138 1 g (ns.length+1) ((ns.map Nd.val).take n++[Value.iface H D]++(ns.map Nd.val).drop n)/\Kept (Value.slice ao ns.length cap).ownBlock.toList w1 W/\(g.ownBlock=(Value.slice ao ns.length cap).ownBlock\/∀b,g.ownBlock=some b->w1.heap.size+1<=b):=q;obtain⟨a5,Y,rfl⟩:=gv ho;have gK:=hk.at H1.ik U;have cK:W.cell? ⟨k,3,none⟩=some (.slice ao ns.length cap):=(by rw[fO gK];rfl);have zK:=gu gK 3;go_simp;refine o _ _ ⟨.slice a5 (ns.length+1) Y,?_,(by rw[pi];exact aaV H1 a2 a4 J U N a0 hl a9 d ho hk hf)⟩
    all_goals simp[ot,uP,kX,hc]
  .rintro g W I;rw[uH,uH,uH]at I;simp only[uF];rename_i JJ a6;refine a6 _ _ ?_;go_meet;exact I
 case rest=>
  have⟨hp,hbx⟩:=hcut;have m:=l _ hp;clear hp y H1 l;cases x with
  |el j=>
   have⟨⟨p,c2⟩,fz,m⟩:=m;have l:=fN m;injection d with e1 e2;subst e1 e2;have cb:wc.cell? ⟨w.heap.size,0,none⟩=some (gF k):=by rw[fO hbx];rfl
   have A:=Ub (X:=65) underlying65;clear hbx m;go_wp2;go_end0;exact⟨rfl,l⟩
  |tx j=>
   have l:=fN m;injection d with e1 e2;subst e1 e2;have A:=EK (X:=65) (T:=277) underlying65 rfl (by decide);clear m;go_wp2;go_end0;exact⟨rfl,l⟩
  |cm j=>
   have l:=fN m;injection d with e1 e2;subst e1 e2;have A:=EK (X:=65) (T:=233) underlying65 rfl (by decide);clear m;go_wp2;go_end0;exact⟨rfl,l⟩
  |dt j=>
   have l:=fN m;injection d with e1 e2;subst e1 e2;have A:=EK (X:=65) (T:=237) underlying65 rfl (by decide);clear m;go_wp2;go_end0;exact⟨rfl,l⟩
theorem YH (base k n:Nat) (name:gn) (av kv:gG) (ja:jb) (ns:List Nd) (x:Nd) (w:gr) (h:El base w k name av ja kv ns) (l:n<=ns.length) (g:ns.length < 1048576) (d:base<=w.heap.size) (o:∀j,x≠ .el j):
  Calls prog 165 #[place k n,x.val] w λe w'=>e=o9/\Wz base k name av kv ja (ns.take n++[x]++ns.drop n) w w':=by
 refine TV base k n name av kv ja ns x w h l g d _ λwc m=>?_;grind
theorem Sv (base k n j:Nat) (name A:gn) (av kv o l:gG) (ja m:jb) (ns D:List Nd) (w:gr) (h:El base w k name av ja kv ns) (I:El base w j A o m l D) (J:j≠k) (a0:∀g,l.ownBlock=some g->kv.ownBlock≠some g) (hn:n<=ns.length) (hl:ns.length < 1048576) (hb:base<=w.heap.size):
  Calls prog 165 #[place k n,(Nd.el j).val] w λe w'=>e=o9/\(∃d,El base w' k name av ja d (ns.take n++[.el j]++ns.drop n)/\(d.ownBlock=kv.ownBlock\/∀g,d.ownBlock=some g->w.heap.size<=g))/\El base w' j A o (some k) l D/\Kept (j::k::kv.ownBlock.toList) w w':=by
 refine TV base k n name av kv ja ns (.el j) w h hn hl hb _ λwc V=>?_;have U:∀g,l.ownBlock=some g->g∉k::kv.ownBlock.toList:=by
  intro g hg q;rcases List.mem_cons.1 q with rfl|q
  .exact I.nj h.ik (by decide) hg
  .grind
 have N:j∉k::kv.ownBlock.toList:=by
  intro q;rcases List.mem_cons.1 q with e|q
  .omega
  .exact h.nj I.ik (by decide) (by grind)
 have H:=I.kept V.kept N U;have⟨d,E2,f2⟩:=V.ex;have Z:wc.cell? ⟨j,2,none⟩=some (jY m):=by rw[fO H.ik];rfl
 have fz:=gu H.ik 2;have Y:El base (wc.setCell ⟨j,2,none⟩ (jY (some k))) k name av ja d (ns.take n++[.el j]++ns.drop n):=
  ⟨by rw[Below.heap_setCell wc ⟨j,2,none⟩ _ k (wR J)];exact E2.ik,yb (a:=⟨j,2,none⟩) E2.row (E2.nj H.ik (by decide)) _,E2.le,E2.Tg⟩
 exact⟨⟨_,Z⟩,fz,⟨d,Y,f2⟩,H.YT (some k),(V.kept.mono (S':=j::k::kv.ownBlock.toList) (λy hy _=>pX _ hy)).setCell (p:=⟨j,2,none⟩) (.inl (by simp)) (jY (some k))⟩
def XW:(prog.info? 138).map (λi=>(i.zero,i.size,i.bytes))=some (some (.nilIface),1,16):=by kernel_rfl
theorem U0 {l : List gG} {n : Nat} (d:i < j) (g:j<=n) (h:n<=l.length):
  ((l.take i++(l.take n).drop j++l.drop (i+(n - j))).take (n - (j - i)))=(l.take n).take i++(l.take n).drop j:=by
 have e:(l.take i++(l.take n).drop j).length=n - (j - i):=by simp;omega
 grind
theorem ZY (g cap i j n:Nat) (m:jE) (w:gr) (q:w.heap[g]?=some (gy m 138)) (a8:n<=cap) (a2:m.size=cap) (hi:i < j) (hj:j<=n) (a7:n<=1048576)
  (h1:∀u∈m.toList.take n,u.oneCell'=true):
  Calls prog 376 #[nI g n cap,ga i,ga j] w λe w'=>e=ir (nI g (n - (j - i)) cap)/\
   ∃y,w'.heap[g]?=some (gy y 138)/\y.size=cap/\y.toList.take (n - (j - i))=(m.toList.take n).take i++(m.toList.take n).drop j/\Kept [g] w w':=by
 obtain⟨i0,Z,a9,a3,aa⟩:=tj XW;obtain⟨d,o⟩:∃d,d=(m.toList.take n).drop j:=⟨_,rfl⟩;have D:d.length=n - j:=by rw[o];simp;omega
 have U:∀t u,d[t]?=some u->m[j+t]?=some u:=by
  intro t u J;rw[o,Uj,DS]at J;split at J
  .grind
  .cases J
 obtain⟨A,hA,V⟩:∃A:Addr,(if cap=j then some (⟨g,0,none⟩:Addr)else some ⟨g,j,none⟩)=some A/\Hid (∀t u,d[t]?=some u->w.drew.cell? (A.add t)=some u):=by
  by_cases h:cap=j
  .refine⟨⟨g,0,none⟩,by simp[h],λt u J=>?_⟩;grind
  .refine⟨⟨g,j,none⟩,by simp[h],λt u J=>?_⟩;rw[show(⟨g,j,none⟩:Addr).add t=⟨g,j+t,none⟩from by unfold Addr.add;simp];exact(fO q _).trans (U t u J)
 have s1:Hid (d.length=(n - j)*1):=by rw[DT];exact D
 have s2:Hid (∀u∈d,u.oneCell'=true):=λu J=>h1 u (JD (o▸J));have s3:Hid (∀t,t < d.length->(w.drew.cell? ⟨g,0+i*1+t,none⟩).isSome=true/\w.drew.frozen? ⟨g,0+i*1+t,none⟩=false):=by
  intro t ht;rw[D]at ht;refine⟨?_,gu q _⟩;show(w.cell? _).isSome=true;rw[fO q,wu (by omega)];rfl
 obtain⟨I,H⟩:∃I,I=w.drew.setCells g (0+i*1) d:=⟨_,rfl⟩;have N:I.heap[g]?=some (gy (jj m (0+i*1) d) 138):=by rw[H];exact j5 d w.drew g m _ _ _ q
 have Y:Kept [g] w I:=by rw[H];exact Kept.setCells (.inl (by simp)) d _ (Kept.refl _ _).drew
 have a4:∀ty,(Builtin.clear_ #[134] ty #[.slice (some ⟨g,i+(n - j),none⟩) (n - (i+(n - j))) (cap - (i+(n - j)))]).run prog I= .ok (.tuple #[]) (I.setCells g (i+(n - j)) (List.replicate (n - (i+(n - j))) (.nilIface))):=
  λty=>Lib.run_clear_slice I _ _ ty _ underlying134 Tryz.zeroValue138 rfl rfl g (i+(n - j)) _ _ (by omega) (λt ht=>by rw[fO N,wu (by rw[jo];omega)];rfl) (λt ht=>gu N _)
 have HB:=j5 (List.replicate (n - (i+(n - j))) (Value.nilIface)) I g _ _ _ (i+(n - j)) N;have HK:=Kept.setCells (S:=[g]) (a:=w) (b:=g) (.inl (by simp)) (List.replicate (n - (i+(n - j))) (Value.nilIface)) (i+(n - j)) Y;have a0:(jj m (0+i*1) d).toList=m.toList.take (0+i*1)++d++m.toList.drop (0+i*1+d.length):=ke _ _ _ (by omega);have a1:=ke (List.replicate (n - (i+(n - j))) (Value.nilIface)) (jj m (0+i*1) d) (i+(n - j)) (by rw[jo];grind);have HF:(jj (jj m (0+i*1) d) (i+(n - j)) (List.replicate (n - (i+(n - j))) (Value.nilIface))).toList.take (n - (j - i))=(m.toList.take n).take i++(m.toList.take n).drop j:=by
  rw[a1,uS,JF (by simp[jo];omega),a0,D,o];rw[LV,QN (by omega)];have:=U0 (l:=m.toList) hi hj (by grind)
  simpa using this
 have HW:=fN H;have a5:i<=cap:=by omega
 have a6:j<=cap:=by omega
 clear H;go_enter func376,ntmps376;go_wp21
 go_region_law (refine step_append_room rfl (.tmp 22) (.tmp 25) 134 rfl 138 i0 1 underlying134 Z a3 g 0 i cap (by simp[Act.eval,Act.put]) A (n - j) (cap - j) d (by simp[Act.eval,Act.put]) s1 V s2 (by omega) s3 ?_;rw[<-HW.out])
 go_wp2;go_ret;exact⟨by rw[show n - (j - i)=i+(n - j) by omega];rfl,_,HB,by rw[jo,jo];exact a2,HF,HK⟩
def Nd.ik:Nd->Nat
 | .el k=>k
 | .tx k=>k
 | .cm k=>k
 | .dt k=>k
def Nd.typ:Nd->TypeId
 | .el _=>136
 | .tx _=>280
 | .cm _=>235
 | .dt _=>239
def zA (w:gr) (x:Nd):Prop:=∃c,w.heap[x.ik]?=some (gy c x.typ)
def Nd.gQ (j:Nat):Nd->Bool
 | .el k=>k==j
 |_=>false
variable {ns : List Nd}
def ndc:(prog.info? 65).map (λi=>i.comparable)=some true:=by kernel_rfl
def Ee {U : TypeId} (g:T≠U) (w:gr):(binOp .eql 138 (.iface T v) (.iface U u)).run prog w= .ok (.bool false) w:=by
 have h:∀d:Nat,(Op.equalIn (d+1) 138 (.iface T v) (.iface U u)).run prog w= .ok false w:=λd=>by simp[Op.equalIn,qv underlying138,g]
 simp only[binOp];simp[Op.equal,Op.maxDepth,h 9999]
def acI {x : Nd} (m:zA w x) (l:zA w (.el j)):
  (binOp .eql 138 x.val (Nd.el j).val).run prog w= .ok (.bool (x.gQ j)) w:=by
 obtain⟨i,g,d⟩:=Option.map_eq_some_iff.1 ndc;have⟨q,hq,hqs⟩:=Option.map_eq_some_iff.1 Tu;cases x with
 |el k=>
  by_cases h:k=j
  .subst h;have e:(Nd.el k).gQ k=true:=by simp[Nd.gQ]
   rw[e];exact run_eql_iface_ptr_same (P:=prog) w (⟨k,0,none⟩:Addr) underlying138 underlying65 g d hq
  .have⟨ca,ha⟩:=m;have⟨cb,hb⟩:=l;have e:(Nd.el k).gQ j=false:=by simp[Nd.gQ,h]
   rw[e];exact run_eql_iface_ptr_other (P:=prog) w (a:=⟨k,0,none⟩) (b:=⟨j,0,none⟩) underlying138 underlying65 g d hq (by omega) (by simp[h]) ha hb
 |tx k=>exact Ee (by decide) w
 |cm k=>exact Ee (by decide) w
 |dt k=>exact Ee (by decide) w
def EQ (x:Nd):∃T v,x.val= .iface T (.pointer v):=by cases x<;>exact⟨_,_,rfl⟩
def O6 (g j:Nat) (x:Nd) (w:gr) (m:w.cell? ⟨g,0,none⟩=some (gF j)) (l:zA w x) (h:zA w (.el j)):
  Calls prog 361 #[x.val,gF g] w λe w'=>e=ir (.bool (x.gQ j))/\w'=w:=by
 have d:=acI l h;have⟨T,p,hv⟩:=EQ x;rw[hv]at d|-;unfold Nd.val at d;generalize x.gQ j=r at d|-;go_enter func361,ntmps361;go_wp2;go_ret;simp
def pZ (ns:List Nd) (p:Nd->Bool):Int:=if ns.findIdx p < ns.length then (ns.findIdx p:Int)else -1
theorem aaM {p : Nd->Bool} (g:k < ns.length) (h:p ns[k]=true) (d:∀j,(hj:j < ns.length)->j < k->p ns[j]=false):pZ ns p=k:=by
 grind[pZ]
theorem aaN {p : Nd->Bool} (d:∀j,(hj:j < ns.length)->p ns[j]=false):pZ ns p= -1:=by
 grind[pZ]
theorem aae (kv:gG) (ns:List Nd) (base q j:Nat) (w:gr) (ho:w.ownsRow base 138 1 kv ns.length (ns.map Nd.val)) (hn:∀x∈ns,zA w x) (hj:zA w (.el j)) (Z:w.cell? ⟨q,0,none⟩=some (gF j)) (a0:ns.length<=1048576):
  Calls prog 360 #[kv,.func (.func 361) #[] #[gF q]] w λe w'=>e=ir (ga (pZ ns (Nd.gQ j)))/\w'=w:=by
 have N:=(λx hx=>O6 q j x w Z (hn x hx) hj);rcases ho.2 with⟨rfl,Y⟩|⟨g,cap,y,rfl,_,n,a2,_,_,l⟩
 .have o:ns=[]:=SZ Y;subst o;go_enter func360,ntmps360;go_wp2;refine Au 1 ?_;rw[rF];go_wp2;go_ret;simp[pZ]
 .have U:∀k,(A:k < ns.length)->w.cell? ⟨g,k,none⟩=some ns[k].val:=by
   intro k A;rw[fO n];have:(y.toList.take (ns.length*1))[k]?=some ns[k].val:=by rw[l];simp[A]
   rw[DS]at this;split at this
   .grind
   .omega
  go_enter func360,ntmps360;go_wp2
  go_loopw [8] (λi wr=>∃k:Nat,k<=ns.length/\i=ga k/\wr=w/\∀m,(D:m < ns.length)->m < k->(ns[m]).gQ j=false) (λi _=>ns.length - (intOf i).toNat)
  case atStart=>grind
  case round=>
   obtain⟨k,A,rfl,rfl,J⟩:=hrel;by_cases h:k < ns.length
   .have V:=U k h;have d:=N ns[k] (ti h);have⟨T,p,hv⟩:=EQ ns[k];rw[hv]at V d;cases hq:(ns[k]).gQ j with
    |true=>
     rw[hq]at d;have H:=fN (aaM h hq J);go_wp21;refine d.mono ?_;rintro e w' ⟨rfl,I⟩;subst I;go_wp2;go_ret;exact⟨by rw[H.out];rfl,rfl⟩
    |false=>
     rw[hq]at d;have HQ:=hq;go_wp21;refine d.mono ?_;rintro e w' ⟨rfl,I⟩;subst I;go_wp2;go_roundw
     case rel=>
      refine⟨k+1,by omega,by go_num,by simp,λm D a1=>?_⟩;grind
     case measure=>simp[intOf];omega
   .have H:=fN (aaN (ns:=ns) (p:=Nd.gQ j) (λm D=>J m D (by omega)));go_wp2;go_ret;exact⟨by rw[H.out];rfl,rfl⟩
theorem Ii (base k j:Nat) (name:gn) (av kv:gG) (ja:jb) (ns:List Nd) (w:gr) (h:El base w k name av ja kv ns) (y:∀x∈ns,zA w x) (n:zA w (.el j)):
  Calls prog 338 #[gF k,gF j] w λe w'=>e=ir (ga (pZ ns (Nd.gQ j)))/\Kept [] w w':=by
 have d:Kept [] w (w.alloc (gy #[gF j] 65)):=(Kept.refl _ _).alloc _;have D:=fQ w (gy #[gF j] 65);have g:∀x,zA w x->zA (w.alloc (gy #[gF j] 65)) x:=λx ⟨c,m⟩=>⟨c,d.at m (by simp)⟩;have H:=aae kv ns base w.heap.size j _ (d.ownsRow h.row (λ_ _=>by simp)) (λx A=>g x (y x A)) (g _ n) (by simp) h.le;have l:=fO h.ik 3;dsimp at l;have o:=je h.ik;obtain⟨ao,cap,rfl⟩:=gv h.row;generalize pZ ns (Nd.gQ j)=q at H|-;go_enter func338,ntmps338;go_wp21;refine H.mono ?_;rintro e w' ⟨rfl,rfl⟩;go_wp2;go_ret;simp_all
theorem Ir (h:El base w k name av ja kv ns) {m : Nat} (o:m < ns.length):∃g cap,kv=nI g ns.length cap/\w.cell? ⟨g,m,none⟩=some ns[m].val:=by
 rcases h.row.2 with⟨_,y⟩|⟨g,cap,n,rfl,_,l,q,_,_,d⟩
 .omega
 .refine⟨g,cap,rfl,?_⟩;rw[fO l];have:(n.toList.take (ns.length*1))[m]?=some ns[m].val:=by rw[d];simp[o]
  grind
theorem Ks (base k m n:Nat) (name d s:gn) (av kv:gG) (ja:jb) (ns:List Nd) (w:gr) (h:El base w k name av ja kv ns) (V:m < ns.length) (Z:ns[m]= .tx n) (Y:w.heap[n]?=some (gy #[gw d] 280)) (a5:d.size+s.size<=1048576):
  Calls prog 172 #[place k (m+1),gw s] w λe w'=>e=o9/\w'.heap[n]?=some (gy #[gw (d++s)] 280)/\Kept [n] w w':=by
 obtain⟨g,cap,rfl,c4⟩:=Ir h V;rw[Z]at c4;have a2:=je h.ik;have a7:=je Y;have a3:=h.le;obtain⟨w1,l⟩:∃w1,w1=w.alloc (gy #[gF k,ga ((m+1:Nat))] 231):=⟨_,rfl⟩;have o:Kept [] w w1:=by rw[l];exact(Kept.refl _ _).alloc _
 have J:w1.heap[w.heap.size]?=some (gy #[gF k,ga ((m+1:Nat))] 231):=by rw[l];exact fQ w _
 have N:=h.kept o (by simp) (by simp);have q:=o.at Y (by simp);have A:=fO J 0;have D:=fO J 1;have H:=fO N.ik 3;dsimp at A D H;have cG:w1.cell? ⟨g,m,none⟩=some (Nd.tx n).val:=by
  have⟨g',cap',e,c⟩:=Ir N V;injection e with e1;injection e1 with e2;injection e2 with e3;rw[e3,c,Z]
 unfold Nd.val at cG;have I:=fO q 0;have fT:=gu q 0;dsimp at I;have a6:=Ub (X:=277) underlying277;have y:=fN l;have a4:(m:Int) < ns.length:=by omega
 clear l;go_enter func172,ntmps172;go_wp21;rw[show((m+1:Nat):Int)=(m:Int)+1 by omega]at y;rw[<-y.out]
 go_quiet (fail)
 have a0:(w1.drewN nq).cell? ⟨n,0,none⟩=some (gw d):=I;have a1:(w1.drewN nq).frozen? ⟨n,0,none⟩=false:=fT;have U:=run_string_add_sum (P:=prog) (w1.drewN nq) d s (by omega);have HB:=fV (w:=w1.drewN nq) q 0 (gw (d++s));have HK:=((o.mono (S':=[n]) (by simp)).drewN nq).setCell (p:=⟨n,0,none⟩) (.inl (by simp)) (gw (d++s));go_wp2;refine o0 (F8 rfl _ _ _) rfl ?_;grind
theorem Nn (base k n:Nat) (name s:gn) (av kv:gG) (ja:jb) (ns:List Nd) (w:gr) (h:El base w k name av ja kv ns) (hn:n<=ns.length) (Q:gr->Prop) (l:∀w1,Kept [] w w1->Calls prog 165 #[place k n,(Nd.tx w1.heap.size).val] (w1.alloc (gy #[gw s] 280)) λe w'=>e=o9/\Q w') (hx:∀m,(J:m < ns.length)->n=m+1->∀t,ns[m]≠ .tx t):
  Calls prog 172 #[place k n,gw s] w λe w'=>e=o9/\Q w':=by
 have a2:=je h.ik;have a3:=h.le;obtain⟨w1,d⟩:∃w1,w1=w.alloc (gy #[gF k,ga n] 231):=⟨_,rfl⟩;have U:Kept [] w w1:=by rw[d];exact(Kept.refl _ _).alloc _
 have Y:w1.heap[w.heap.size]?=some (gy #[gF k,ga n] 231):=by rw[d];exact fQ w _
 have Z:=h.kept U (by simp) (by simp);have H:=fO Y 0;have y:=fO Y 1;dsimp at H y;have o:=fN d;have A:w1.heap.size=w.heap.size+1:=by rw[d];simp
 by_cases h0:n=0
 .subst h0;have hP:=l w1 U;rw[A,d]at hP;have D:=(show Calls prog 165 #[.agg #[gF k,ga 0],.iface 277 (gF (w.heap.size+1))] ((w.alloc (gy #[gF k,ga 0] 231)).alloc (gy #[gw s] 280)) (λe w'=>e=o9/\Q w')from hP);clear d A;go_enter func172,ntmps172;go_wp21;refine D.mono ?_;rintro e w' ⟨rfl,HR⟩;go_wp2;go_end0;grind
 .obtain⟨m,rfl⟩:∃m,n=m+1:=⟨n - 1,by omega⟩;have J:m < ns.length:=by omega
  have a5:=hx m J rfl;have⟨g,cap,hkv,c4⟩:=Ir Z J;subst hkv;have I:=fO Z.ik 3;dsimp at I;have N:∀(xT:TypeId) (w:gr),(Instr.typeAssert ns[m].val xT 277 true).run prog w= .ok (.tuple #[.pointer none,.bool false]) w:=by
   intro xT w;cases hq:ns[m]with
   |tx t=>grind
   |el t=>exact EK (X:=277) underlying277 rfl (by decide) _ _ _
   |cm t=>exact EK (X:=277) underlying277 rfl (by decide) _ _ _
   |dt t=>exact EK (X:=277) underlying277 rfl (by decide) _ _ _
  have D:∀q,Calls prog 165 #[.agg #[gF k,ga ((m:Int)+1)],.iface 277 (gF w1.heap.size)] ((w1.drewN q).alloc (gy #[gw s] 280)) (λe w'=>e=o9/\Q w'):=
   λq=>l (w1.drewN q) (U.drewN q)
  have⟨xt,xp,hxv⟩:=EQ ns[m];rw[hxv]at c4 N;have a4:(m:Int) < ns.length:=by omega
  have V:w1.cell? ⟨w.heap.size,1,none⟩=some (ga ((m:Int)+1)):=y;have a0:w.heap.size < w1.heap.size:=by omega
  rw[show((m+1:Nat):Int)=(m:Int)+1 by omega]at o;have a1:=fN A;clear d A;go_enter func172,ntmps172;go_wp21;rw[<-o.out]
  go_quiet (fail)
  go_wp21;refine(D nq).mono ?_;rintro e w' ⟨rfl,HR⟩;go_wp2;go_end0;grind
def zA.kept {x : Nd} (h:zA w x) (d:Kept [] w w'):zA w' x:=by
 have⟨c,hc⟩:=h;exact⟨c,d.at hc (by simp)⟩
def El.Vl (h:El base w k name av ja kv ns):zA w (.el k):=⟨_,h.ik⟩
def Mg (w:gr) (o:Obj):∃W,W=w.alloc o/\Kept [] w W/\W.heap[w.heap.size]?=some o/\W.heap.size=w.heap.size+1:=⟨_,rfl,(Kept.refl _ _).alloc _,fQ w _,by simp⟩
def XG (base j:Nat) (name:gn) (av kv:gG) (ns:List Nd) (w:gr) (h:El base w j name av none kv ns):
  Calls prog 311 #[gF j] w λe w'=>e=ir (.tuple #[.agg #[.pointer none,ga 0],.bool false])/\Kept [] w w':=by
 have l:w.cell? ⟨j,2,none⟩=some (.pointer none):=(fO h.ik 2).trans rfl;have g:=je h.ik;have d:=(Kept.refl [] w).alloc (gy #[.pointer none,ga 0] 231);go_enter func311,ntmps311;go_wp2;refine o0 (v:= .tuple #[.agg #[.pointer none,ga 0],.bool false]) ?_ rfl ⟨rfl,d⟩;simp[results,results311,asAddr,Result.andThen,go_sem]
def Vc (base j p:Nat) (name A:gn) (av kv o y:gG) (g:jb) (ns d:List Nd) (w:gr) (h:El base w j name av (some p) kv ns) (hp:El base w p A o g y d) (hn:∀x∈d,zA w x):
  Calls prog 311 #[gF j] w λe w'=>e=ir (.tuple #[.agg #[gF p,ga (pZ d (Nd.gQ j))],.bool true])/\Kept [] w w':=by
 have⟨w1,hw1,HK1,HG1,z1⟩:=Mg w (gy #[.pointer none,ga 0] 231);have c2:w1.cell? ⟨j,2,none⟩=some (gF p):=(fO (HK1.at h.ik (by simp)) 2).trans rfl;have a0:=je h.ik;have m:j≠w.heap.size:=by omega
 have V:=(λ(W:gr) (U:Kept [] w W)=>Ii base p j A o y g d W (hp.kept U (by simp) (λ_ _=>by simp)) (λx hx=>(hn x hx).kept U) (h.Vl.kept U));have Z:w.cell? ⟨j,2,none⟩=some (gF p):=(fO h.ik 2).trans rfl;have J:=fN hw1;have Y:=h.ik;clear hw1;generalize pZ d (Nd.gQ j)=q at V|-;go_enter func311,ntmps311;go_wp21;rw[<-J.out]
 go_region_held3 (λw'=>w'.cell? ⟨j,2,none⟩=some (gF p)) ((first|assumption|go_keep|exact(kK m).trans (by assumption)|exact(kK m).trans ((kK m).trans (by omega)))) ((go_at_call 338;refine(V _ HK1.drew).mono ?_;rintro e D ⟨rfl,l⟩;have N:Kept [] w D:=HK1.drew.trans l;have d2:D.cell? ⟨j,2,none⟩=some (gF p):=(fO (N.at Y (by simp)) 2).trans rfl;have n:D.heap[w.heap.size]?=some (gy #[.pointer none,ga 0] 231):=((Kept.refl [] w1).drew.trans l).at HG1 (by simp);have e0:D.cell? ⟨w.heap.size,0,none⟩=some (.pointer none):=(fO n 0).trans rfl;have e1:D.cell? ⟨w.heap.size,1,none⟩=some (ga 0):=(fO n 1).trans rfl;have y0:=gu n 0;have y1:=gu n 1;have H:=fN n;have I:=fN N;clear n N l))
 all_goals (try (go_wp21))
 have hb:=fV (fV H 0 (gF p)) 1 (ga q);have hc:=fO hb;refine o0 (v:= .tuple #[.agg #[gF p,ga q],.bool true]) ?_ rfl ⟨rfl,(I.setCell (p:=⟨w.heap.size,0,none⟩) (.inr (gW _)) _).setCell (p:=⟨w.heap.size,1,none⟩) (.inr (gW _)) _⟩;simp[results,results311,asAddr,Result.andThen,go_sem,hc]
def SN (base j:Nat) (name:gn) (av kv:gG) (ns:List Nd) (w:gr) (h:El base w j name av none kv ns):
  Calls prog 364 #[gF j] w λe w'=>e=o9/\w'=w:=by
 have d:w.cell? ⟨j,2,none⟩=some (.pointer none):=(fO h.ik 2).trans rfl;go_enter func364,ntmps364;go_wp2;go_end0;simp
theorem aaY {g : Nat} {h d : jE} (n:i < ns.length) (l:base<=g) (m:w'.heap[g]?=some (gy d 138)) (I:d.size=cap) (H:ns.length<=cap) (q:cap<=maxLen) (y:h.toList.take ns.length=ns.map Nd.val) (A:d.toList.take (ns.length - 1)=(h.toList.take ns.length).take i++(h.toList.take ns.length).drop (i+1)):
  w'.ownsRow base 138 1 (nI g (ns.length - 1) cap) (ns.eraseIdx i).length ((ns.eraseIdx i).map Nd.val):=by
 have o:(ns.eraseIdx i).length=ns.length - 1:=by rw[Zl n]
 have D:(ns.eraseIdx i).map Nd.val=(h.toList.take ns.length).take i++(h.toList.take ns.length).drop (i+1):=by
  rw[y,List.eraseIdx_eq_take_drop_succ,ra,List.map_take,List.map_drop]
 refine⟨by simp,.inr ⟨g,cap,d,by rw[o],l,m,by omega,q,by omega,?_⟩⟩;grind
def Ta (base p i g cap:Nat) (A:gn) (o:gG) (n:jb) (h:List Nd) (m:jE) (w:gr) (q y:Bool) (W:gr):Prop:=
 if y then (∃l,El base W p A o n l (h.eraseIdx i)/\l.ownBlock=some g)/\Kept [p,g] w W else if q then Kept [g] w W/\∃d,W.heap[g]?=some (gy d 138)/\d.size=cap/\d.toList.take (h.length - 1)=(m.toList.take h.length).take i++(m.toList.take h.length).drop (i+1)else Kept [] w W
def Ta.any {p g : Nat} {q : gn} {l : gG} {d : jb} {y : List Nd} {o : jE} {m n : Bool} (h:Ta base p i g cap q l d y o w m n W):Kept [p,g] w W:=by
 unfold Ta at h;split at h
 .exact h.2
 split at h
 .exact h.1.mono (by simp)
 .exact h.mono (by simp)
theorem F4 (base j p i:Nat) (name V:gn) (av kv I D:gG) (y:jb) (ns d:List Nd) (w:gr) (h:El base w j name av (some p) kv ns) (U:El base w p V I y D d) (hn:∀x∈d,zA w x) (ac:j≠p) (a8:∀g,kv.ownBlock=some g->D.ownBlock≠some g) (hi:i < d.length) (Y:pZ d (Nd.gQ j)=(i:Int)):
  Calls prog 364 #[gF j] w λe w'=>e=o9/\(∃o,El base w' p V I y o (d.eraseIdx i)/\o.ownBlock=D.ownBlock)/\El base w' j name av none kv ns/\Kept (j::p::D.ownBlock.toList) w w':=by
 obtain⟨g,cap,l,rfl,a9,n,A,ad,ae,a4⟩:∃g cap l,D=nI g d.length cap/\base<=g/\w.heap[g]?=some (gy l 138)/\d.length<=cap/\cap<=maxLen/\l.size=cap/\l.toList.take d.length=d.map Nd.val:=by
  rcases U.row.2 with⟨_,e0⟩|⟨g,cap,l,e,hb,n,A,hm,hs,ht⟩
  .omega
  .exact⟨g,cap,l,e,hb,n,A,hm,by omega,by grind⟩
 have CI:=fN (Ii base p j V I _ y d w U hn h.Vl);rw[Y]at CI;have ab:g≠p:=by have:=U.nj U.ik (by decide);simpa [Value.ownBlock]using this
 have aa:g≠j:=by have:=U.nj h.ik (by decide);simpa [Value.ownBlock]using this
 have c2:w.cell? ⟨j,2,none⟩=some (gF p):=(fO h.ik 2).trans rfl;have CD:Hid (∀(W:gr),Kept [] w W->Calls prog 376 #[nI g d.length cap,ga i,ga ((i:Int)+1)] W λe w'=>e=ir (nI g (d.length - 1) cap)/\
   ∃m,w'.heap[g]?=some (gy m 138)/\m.size=cap/\m.toList.take (d.length - 1)=(l.toList.take d.length).take i++(l.toList.take d.length).drop (i+1)/\Kept [g] W w'):=fN (λW hk=>by
  rw[show((i:Int)+1)=((i+1:Nat):Int) by omega];have aq:=ZY g cap i (i+1) d.length l W (hk.at n (by simp)) A ae (by omega) (by omega) U.le (by rw[a4];exact TQ d)
  rwa [show i+1 - i=1 by omega]at aq)
 have aw:(0:Int)<=(i:Int):=by omega
 have au:(i:Int) < 1048576:=by have:=U.le;omega
 have H:=fN h;have HP:=fN U;have af:=fN a8;have an:=fN A;have am:=fN ad;have ap:=fN a4;have HI:=fN hi;have ag:=fN a9;have a0:=fN ac;have ai:=fN ab;have Z:=fN aa;clear h U hn a8 A ad a4 hi a9 ac ab aa n ae Y;go_enter func364,ntmps364;go_wp21;refine CI.out.mono ?_;rintro e w1 ⟨rfl,N⟩;have ak:=fN N;have d2:w1.cell? ⟨j,2,none⟩=some (gF p):=(fO (N.at H.out.ik (by simp)) 2).trans rfl;have d3:w1.cell? ⟨p,3,none⟩=some (nI g d.length cap):=(fO (N.at HP.out.ik (by simp)) 3).trans rfl;clear N c2;go_wp21;refine uU (by rfl) ?_;refine od (λ(u:Unit) z=>⟨#[gF j,undef,ga i,gF j,gF j,lK j 2,gF p,.bool true,gF j,gF j,lK j 2,gF p,gF j,ga i,cd z 0 (gF j),cd z 1 (gF j),cd z 2 (lK j 2),cd z 3 (gF p),cd z 4 (gF j),cd z 5 (gF j),cd z 6 (lK j 2),cd z 7 (gF p),cd z 8 (gF p),cd z 9 (lK p 3),cd z 10 (nI g d.length cap),cd z 11 (ga i),cd z 12 (ga i),cd z 13 (ga ((i:Int)+1)),cd z 14 (nI g (d.length - 1) cap),cd z 15 (gF p),cd z 16 (lK p 3),undef,undef,undef],[]⟩) (λu z W=>Ta base p i g cap V I y d l w (dn z 14) (dn z 17) W) 18 [[],[0],[1],[2],[],[4],[5],[6],[7],[8],[9],[],[],[12],[4,5,6,7,8,9,10,11,12,13],[3],[15],[0,1,2,3,4,5,6,7,8,9,10,11,12,13,14,15,16]] (()) rfl rfl (ak.out.drew) ?_ ?_
 .repeat' first|exact lp|refine ln ?_ ?_
  all_goals
   rintro u z W hI hc hn;simp[zE]at hc;refine mK rfl ?_;intro K' a1;simp only[kX,hc];have c0:W.cell? ⟨j,2,none⟩=some (gF p):=(fO (hI.any.at H.out.ik (by have:=Z.out;have:=a0.out;simp;omega)) 2).trans rfl;have q:=hI
   try simp only[hc]at q
   try rw[hn 17 (by decide)]at q
   try rw[hn 14 (by decide)]at q
   try (have q:Kept [] w W:=q;have c3:W.cell? ⟨p,3,none⟩=some (nI g d.length cap):=(fO (q.at HP.out.ik (by simp)) 3).trans rfl)
   go_simp
   try rw[show IntKind.i64.wrap ((i:Int)+1)=(i:Int)+1 by rw[IntKind.wrap_i64];omega]
   first
   |refine a1 _ _ ⟨u,?_,(by rw[lR (by decide),lR (by decide)];exact hI)⟩
   |refine(CD.out W q).mono ?_;rintro e w2 ⟨rfl,m,a2,a5,a3,ar⟩;refine a1 _ _ ⟨u,?_,(by rw[pi,lR (by decide),hn 17 (by decide)];exact⟨(Kept.mono q (by simp)).trans ar,m,a2,a5,a3⟩)⟩
   |have⟨q,m,a2,a5,a3⟩:=q;have g2:=q.at HP.out.ik (by have:=ai.out;simp;omega);have c3:W.cell? ⟨p,3,none⟩=some (nI g d.length cap):=(fO g2 3).trans rfl;have y3:=gu g2 3;go_simp;refine a1 _ _ ⟨u,?_,(by rw[pi];exact⟨⟨_,HP.out.T7 (g2.trans HP.out.ik.symm) (aaY HI.out ag.out a2 a5 an.out am.out ap.out a3) (by rw[Zl HI.out];have:=HP.out.le;omega),rfl⟩,(Kept.mono q (by simp)).setCell (p:=⟨p,3,none⟩) (.inl (by simp)) _⟩)⟩
   simp[ot,uP,kX,hc]
 .rintro u W hI;rw[uH,uH]at hI;simp only[uF];have⟨⟨o,hE,ho⟩,hk⟩:=hI;have J:=H.out.kept hk (by have:=Z.out;have:=a0.out;simp;omega) (λx hx=>by
   have h1:=af.out x hx;have h2:=H.out.nj HP.out.ik (by decide);rw[hx]at h2;simp[Value.ownBlock]at h1 h2;simp;omega)
  have ah:=fN hE;have a6:=fN ho;have al:=fN hk;have aj:=fN (J.YT none);have j2:W.cell? ⟨j,2,none⟩=some (gF p):=(fO J.ik 2).trans rfl;have z2:=gu J.ik 2;clear hE ho hk J;rename_i KK a7;refine a7 _ _ ?_;clear a7 KK;go_wp2;go_end0;refine⟨rfl,⟨o,ah.out.kept ((Kept.refl [j] W).setCell (p:=⟨j,2,none⟩) (.inl (by simp)) _) (by have:=a0.out;simp;omega) (λx hx=>?_),a6.out⟩,aj.out,?_⟩
  .rw[a6.out]at hx;have e:=jz hx;have:=Z.out;simp;omega
  .refine(al.out.mono (S':=j::p::[g]) ?_).setCell (p:=⟨j,2,none⟩) (.inl (by simp)) _;simp
structure zz where
 name:gn
 gM:lh
 ja:jb
 kids:List Nd
inductive A0
 |el (e:zz)
 |tx (s:gn)
 |cm (s:gn)
 |dt (s:gn)
structure Ab where
 nodes:List A0
 gq:kL
 act:kL
 head:jb
 form:jb
 mode:Nat
 kept:Nat
 waiting:List (Nat×Nat×gn)
 iL:Bool
 jB:Bool
 gH:Nat
 behind:Bool
 nD:gn
 iX:Bool
 fresh:Bool
 pL:Nat
 qH:Nat
 oO:Nat
inductive pC (α:Type)
 |ok (a:α) (σ:Ab)
 |stop (e:Nat) (gH:Nat)
 |stuck
def M (α:Type):=Ab->pC α
namespace M
def pure {α:Type} (a:α):M α:=λσ=> .ok a σ
def bind {α d:Type} (m:M α) (f:α->M d):M d:=λσ=>match m σ with
 | .ok a σ'=>f a σ'
 | .stop e p=> .stop e p
 | .stuck=> .stuck
instance :Monad M where
 pure:=M.pure
 bind:=M.bind
end M
def M.gm {α d:Type} (m:M α) (f:α->M d) (σ:Ab):(m>>=f) σ=match m σ with
 | .ok a σ'=>f a σ'
 | .stop e p=> .stop e p
 | .stuck=> .stuck:=rfl
def stuck {α:Type}:M α:=λ_=> .stuck
def wm (f:Ab->Ab):M Unit:=λσ=> .ok () (f σ)
def Ab.gV (σ:Ab) (i:Nat):Option zz:=match σ.nodes[i]? with
 |some (.el e)=>some e
 |_=>none
def Ab.gQ (σ:Ab) (x:jb):Bool:=match x with
 |none=>true
 |some i=>(σ.gV i).isSome
def Ab.lV (σ:Ab) (x:jb):Bool:=match x with
 |none=>false
 |some i=>(σ.gV i).isSome
def Ab.vf {σ:Ab} (h:σ.lV x=true):σ.gQ x=true:=by
 cases x with
 |none=>rfl
 |some i=>exact h
def Ab.jg (σ:Ab):Nd->Bool
 | .el i=>(σ.gV i).isSome
 | .tx i=>match σ.nodes[i]? with|some (.tx _)=>true|_=>false
 | .cm i=>match σ.nodes[i]? with|some (.cm _)=>true|_=>false
 | .dt i=>match σ.nodes[i]? with|some (.dt _)=>true|_=>false
def Ab.gU (σ:Ab) (i:Nat) (e:zz):Ab:={σ with nodes:=σ.nodes.set i (.el e)}
def Ab.add (σ:Ab) (n:A0):Ab:={σ with nodes:=σ.nodes++[n]}
def Ab.pa (σ:Ab) (n:A0) (d:Bool):Ab:={σ with nodes:=σ.nodes++[n],fresh:=d}
variable {σ : Ab}
def ab5:gn:=fP
def ab4:gn:=gp
def nh (s:gn):Bool:=kh s ab5||kh s ab4
structure Wf (σ:Ab):Prop where
 gq:∀x∈σ.gq,σ.lV x=true
 act:∀x∈σ.act,σ.gQ x=true
 head:σ.gQ σ.head=true
 form:σ.gQ σ.form=true
 ja:∀i e,σ.gV i=some e->σ.gQ e.ja=true
 kids:∀i e,σ.gV i=some e->∀k∈e.kids,σ.jg k=true
 wK:(σ.gV 0).isSome=true
theorem Ab.ic {e : zz} (h:σ.gV i=some e):i < σ.nodes.length:=by
 unfold Ab.gV at h;grind
theorem Ab.jd {e : zz} (h:σ.gV i=some e):σ.nodes[i]?=some (.el e):=by
 unfold Ab.gV at h;grind
theorem Ab.Rt {e : zz} (h:σ.nodes[i]?=some (.el e)):σ.gV i=some e:=by
 grind[Ab.gV]
def words (s:gn):List gn:=(Lib.fields s.data.toList).map λl=>⟨l.toArray⟩
def yK (L:List (gn×gG)) (ks:List gn) (v:gG):List (gn×gG):=ks.foldl (λL k=>BN L k v) L
def PI (L:List (gn×gG)) (ks:List gn) (v:gG) (n:Nat) (d:n < ks.length):yK L (ks.take (n+1)) v=BN (yK L (ks.take n) v) ks[n] v:=by
 unfold yK;rw[Ze d,List.foldl_append];rfl
abbrev rh (w:gr):Prop:=Lib.TabIs prog w "strings.asciiSpace" .u8 Lib.asciiSpaceTab
def pO (s:gn):Bool:=decide (s.size < 4096)&&s.data.toList.all (λb=>decide (b.toNat < 128))&&decide ((words s).length<=4096)
def Lc (s:gn) (w:gr) (d:pO s=true) (l:rh w):
  Calls prog 86 #[gw s] w λe w'=>e=ir (nI w.heap.size (words s).length (words s).length)/\w'=w.alloc (gy ((words s).map Value.string).toArray 9):=by
 unfold pO at d;simp only[qx,Aw,LW]at d;have h:=Tryz.strings_Fields s w (by omega) (λj b g=>d.1.2 b (tk g)) l;refine h.mono ?_;rintro e w' ⟨rfl,rfl⟩;have e1:(words s).length=(Lib.fields s.data.toList).length:=by simp[words]
 refine⟨by rw[e1],?_⟩
 congr 2
 simp[words]
theorem aei (b:Nat) (s:gn) (v:gG) (L:List (gn×gG)) (w:gr) (o:pO s=true) (U:rh w) (N:rP w b L):
  Calls prog 92 #[.map (some b),gw s,v] w λe w'=>e=ir (.map (some b))/\rP w' b (yK L (words s) v)/\Kept [b] w w':=by
 have m:(words s).length<=4096:=by
  unfold pO at o;simp only[qx,Aw]at o;exact o.2
 have H:=Lc s w o U;have J:=N;clear o U N;generalize words s=ks at H m|-;go_enter func92,ntmps92;go_wp21;refine H.mono ?_;rintro e w1 ⟨rfl,h⟩;have Y:w1.heap[w.heap.size]?=some (gy (ks.map Value.string).toArray 9):=by rw[h];exact fQ w _
 have I:Kept [] w w1:=by rw[h];exact(Kept.refl _ _).alloc _
 have A:=J.kept I (by simp);have V:b≠w.heap.size:=by have:=J.lt;omega
 clear h;go_wp2
 go_loopw [12] (λi wr=>∃k:Nat,k<=ks.length/\i=ga k/\rP wr b (yK L (ks.take k) v)/\Kept [b] w wr/\wr.heap[w.heap.size]?=some (gy (ks.map Value.string).toArray 9)) (λi _=>ks.length - (intOf i).toNat)
 case atStart=>exact⟨0,iP _,rfl,A,I.mono (by simp),Y⟩
 case round=>
  obtain⟨k,hk,rfl,g,l,d⟩:=hrel;by_cases n:k < ks.length
  .have c1:wr.cell? ⟨w.heap.size,k,none⟩=some (gw ks[k]):=by rw[fO d];simp[n]
   have⟨w2,r2,HM2,k2,z2⟩:=Qc (T:=166) (E:=164) (by simp) g ks[k] v;have y:=l.trans k2;have q:=k2.at d (by grind);have HS:=fN (PI L ks v k n);clear g l d k2 z2;go_wp2;go_roundw
   case rel=>exact⟨k+1,by omega,by go_num,by rw[HS.out];exact HM2,y,q⟩
   case measure=>simp[intOf];omega
  .have D:k=ks.length:=by omega
   have Z:=(show rP wr b (yK L ks v) by grind);clear g d D;go_wp2;go_ret;simp_all
def zJ (L:List (gn×Nat)):List (gn×gG):=L.map λp=>(p.1,ga p.2)
def wB:List (gn×Nat)->gn->Nat
 |[],_=>0
 |p::L,k=>if kh k p.1 then p.2 else wB L k
def PN:List (gn×Nat)->gn->Nat->List (gn×Nat)
 |[],k,v=>[(k,v)]
 |p::L,k,v=>if kh k p.1 then (k,v)::L else p::PN L k v
def H9:∀(L:List (gn×Nat)) (k:gn),(zv (zJ L) k).getD (ga 0)=ga (wB L k)
 |[],_=>rfl
 |p::L,k=>by
  show(if kh k p.1 then some (Value.int .i64 (p.2:Int))else zv (zJ L) k).getD _=_;unfold wB;split
  .rfl
  .exact H9 L k
def PO:∀(L:List (gn×Nat)) (k:gn) (v:Nat),BN (zJ L) k (ga v)=zJ (PN L k v)
 |[],_,_=>rfl
 |p::L,k,v=>by
  show(if kh k p.1 then (k,Value.int .i64 (v:Int))::zJ L else (p.1,Value.int .i64 (p.2:Int))::BN (zJ L) k _)=_;unfold PN;split
  .rfl
  .rw[PO L k v];rfl
theorem Lh:∀(L:List (gn×Nat)) (k:gn) (v:Nat) (s:gn),wB (PN L k v) s=if kh s k then v else wB L s
 |[],k,v,s=>rfl
 |p::L,k,v,s=>by
  unfold PN;by_cases d:kh k p.1=true
  .grind[wB,kh,PN]
  .rw[gI d];unfold wB;rw[Lh L k v s];grind[kh]
def uC (L:List (gn×Nat)) (c:Nat) (ks:List gn):List (gn×Nat):=ks.foldl (λL k=>PN L k (wB L k|||c)) L
def UF (L:List (gn×Nat)) (ks:List gn) (c n:Nat) (d:n < ks.length):uC L c (ks.take (n+1))=PN (uC L c (ks.take n)) ks[n] (wB (uC L c (ks.take n)) ks[n]|||c):=by
 unfold uC;rw[Ze d,List.foldl_append];rfl
def aeU:∀a c:Fin 16,a.1|||c.1 < 16:=by decide
theorem sG {c : Nat} (d:c < 16) (ks:List gn):∀(L:List (gn×Nat)),(∀s,wB L s < 16)->∀s,wB (uC L c ks) s < 16:=by
 induction ks with
 |nil=>simp[uC]
 |cons k ks ih=>
  intro L h;refine ih _ λs=>?_;rw[Lh];split
  .exact aeU ⟨_,h k⟩ ⟨c,d⟩
  grind
def adh:∀a c:Fin 16,IntKind.i64.wrap (((BitVec.ofInt 64 (a.1:Int))|||(BitVec.ofInt 64 (c.1:Int))).toNat:Int)=((a.1|||c.1:Nat):Int):=by decide
def ZJ:∀a c:Fin 16,IntKind.i64.wrap (((BitVec.ofInt 64 (a.1:Int))&&& (BitVec.ofInt 64 (c.1:Int))).toNat:Int)=((a.1&&& c.1:Nat):Int):=by decide
def ZO (a c:Nat) (d:a < 16) (g:c < 16):bits .or .i64 (a:Int) (c:Int)=((a|||c:Nat):Int):=adh ⟨a,d⟩ ⟨c,g⟩
def WV (a c:Nat) (d:a < 16) (g:c < 16):bits .and .i64 (a:Int) (c:Int)=((a&&& c:Nat):Int):=ZJ ⟨a,d⟩ ⟨c,g⟩
theorem aco (b:Nat) (s:gn) (c:Nat) (L:List (gn×Nat)) (w:gr) (I:pO s=true) (ht:rh w) (hm:rP w b (zJ L)) (hc:c < 16) (hL:∀s,wB L s < 16):
  Calls prog 52 #[.agg #[.map (some b)],ga c,gw s] w λe w'=>e=o9/\rP w' b (zJ (uC L c (words s)))/\Kept [b] w w':=by
 have A:(words s).length<=4096:=by
  unfold pO at I;simp only[qx,Aw]at I;exact I.2
 have U:Kept [] w (w.alloc (gy #[.map (some b)] 88)):=(Kept.refl _ _).alloc _;have g0:=fQ w (gy #[.map (some b)] 88);have HF:=Lc s (w.alloc (gy #[.map (some b)] 88)) I (Lib.tabIs_alloc ht _);have HM:=hm.kept U (by simp);have a2:=hm.lt;have HL:=hL;clear I ht hm hL;generalize words s=ks at HF A|-;obtain⟨N,o⟩:∃N,N=w.alloc (gy #[.map (some b)] 88):=⟨_,rfl⟩;go_enter func52,ntmps52;go_wp21;refine HF.mono ?_;rintro e w1 ⟨rfl,l⟩;rw[<-o]at l g0 U HM;have a0:N.heap.size=w.heap.size+1:=by rw[o];simp
 have HG:w1.heap[w.heap.size+1]?=some (gy (ks.map Value.string).toArray 9):=by rw[l,<-a0];exact fQ N _
 have V:Kept [] N w1:=by rw[l];exact(Kept.refl _ _).alloc _
 have Y:=V.at g0 (by simp);have HK:=U.trans V;have Z:=HM.kept V (by simp);clear l V U g0;go_wp2
 go_loopw [11] (λi wr=>∃k:Nat,k<=ks.length/\i=ga k/\rP wr b (zJ (uC L c (ks.take k)))/\Kept [b] w wr/\wr.heap[w.heap.size+1]?=some (gy (ks.map Value.string).toArray 9)/\wr.heap[w.heap.size]?=some (gy #[.map (some b)] 88)) (λi _=>ks.length - (intOf i).toNat)
 case atStart=>exact⟨0,iP _,rfl,Z,HK.mono (by simp),HG,Y⟩
 case round=>
  obtain⟨k,hk,rfl,h,n,g,d⟩:=hrel;by_cases H:k < ks.length
  .have c1:wr.cell? ⟨w.heap.size+1,k,none⟩=some (gw ks[k]):=by rw[fO g];simp[H]
   have c2:=fO d 0;dsimp at c2;have m:=sG hc (ks.take k) L HL ks[k];have D:=EF (T:=86) (E:=91) (z:=ga 0) (by simp) (by simp) h ks[k];rw[H9]at D;have y:=ZO _ c m hc;have⟨w2,r2,HM2,k2,z2⟩:=Qc (T:=86) (E:=91) (by simp) h ks[k] (ga ((wB (uC L c (ks.take k)) ks[k]|||c:Nat):Int));rw[PO,<-UF L ks c k H]at HM2;have a5:=n.trans k2;have a4:=k2.at g (by grind);have a3:=k2.at d (by grind);obtain⟨q,hq⟩:∃q,q=wB (uC L c (ks.take k)) ks[k]:=⟨_,rfl⟩;rw[<-hq]at D y r2;obtain⟨q2,J⟩:∃q2:Nat,q2=q|||c:=⟨_,rfl⟩;rw[<-J]at y r2;clear h n g d k2 z2 hq J m;go_wp2;go_roundw
   case rel=>grind
   case measure=>simp[intOf];omega
  .have a1:k=ks.length:=by omega
   have a6:=(show rP wr b (zJ (uC L c ks)) by grind);clear h g a1 d;go_wp2;go_end0;grind
def QH:List gn:=[jN,tW,sX,jw,jc,ig]
def DP:List gn:=[fP,gL,jk,iK,jc,gp,mX,jI,mg,mh,oj,qy,kF,lz,lA,mL,iG,gS,jw,jN,tW,sX,fR,gh,fS,ig,fW,fY,fX,gX,il,im,gO,iS,jx]
def JA:List gn:=[lz,lA,kF,gE,fU,mX]
def Uf:List gn:=[fP,fR,il,im,gh,gO]
def rQ:List (gn×Nat):=uC (uC (uC (uC [] 1 QH) 2 DP) 4 JA) 8 Uf
theorem rh.kept (h:rh w) (m:Kept S w w') (l:1∉S):rh w':=by
 unfold rh Lib.TabIs World.var? at *;have e:prog.globalNamed "strings.asciiSpace"=some 1:=rfl;simp only[e,Option.bind_some]at h|-;have d:1 < w.heap.size:=by
  rcases uW 1 w.heap.size with g|g
  .exact g
  .grind
 rw[m.block _ d l];exact h
def Gu (b:Nat) (s:gn) (c:Nat) (L:List (gn×Nat)) (ks:List gn) (w:gr) (m:pO s=true) (d:words s=ks) (n:rh w) (l:rP w b (zJ L)) (h:c < 16) (g:∀s,wB L s < 16):
  Calls prog 52 #[.agg #[.map (some b)],ga c,gw s] w λe w'=>e=o9/\rP w' b (zJ (uC L c ks))/\Kept [b] w w':=by
 rw[<-d];exact aco b s c L w m n l h g
def Pv:∀s,wB [] s < 16:=λ_=>Nat.zero_lt_succ 15
theorem Bd (w:gr) (ht:rh w):
  Calls prog 30 #[] w λe w'=>∃bm,e=ir (.agg #[.map (some bm)])/\rP w' bm (zJ rQ)/\Kept [] w w'/\w.heap.size<=bm:=by
 have ad:=@run_makeMap prog;obtain⟨W,g⟩:∃W,W=((w.alloc (gy #[.map none] 88)).alloc (.map #[] 0)).alloc (gy #[.map (some (w.heap.size+1))] 88):=⟨_,rfl⟩;have kW:Kept [] w W:=by rw[g];exact(((Kept.refl _ _).alloc _).alloc _).alloc _
 have H0:W.heap[w.heap.size]?=some (gy #[.map none] 88):=by
  rw[g,Below.heap_alloc _ _ _ (by simp;omega),Below.heap_alloc _ _ _ (by simp)];exact fQ w _
 have g1:W.heap[w.heap.size+1]?=some (.map #[] 0):=by
  rw[g,Below.heap_alloc _ _ _ (by simp)];have:=fQ (w.alloc (gy #[.map none] 88)) (.map #[] 0)
  rwa [yc]at this
 have H2:W.heap[w.heap.size+1+1]?=some (gy #[.map (some (w.heap.size+1))] 88):=by
  rw[g];have:=fQ ((w.alloc (gy #[.map none] 88)).alloc (.map #[] 0)) (gy #[.map (some (w.heap.size+1))] 88)
  rwa [yc,yc]at this
 have HM:rP W (w.heap.size+1) (zJ []):=⟨#[],0,g1,rfl⟩;have D:1∉[w.heap.size+1]:=by
  have ac:1 < w.heap.size:=by
   have h:=ht;unfold rh Lib.TabIs World.var? at h;have e:prog.globalNamed "strings.asciiSpace"=some 1:=rfl;simp only[e,Option.bind_some]at h;rcases uW 1 w.heap.size with h'|h'
   .exact h'
   .grind
  intro A;have:=List.mem_singleton.1 A;omega
 have HT:=ht.kept kW (by simp);have HK:=kW.mono (S':=[w.heap.size+1]) (by simp);have HW:=fN g;clear g;go_enter func30,ntmps30;go_wp21;rw[<-HW.out];refine(Gu (w.heap.size+1) _ 1 [] QH W (by rfl) (by rfl) HT HM (by decide) Pv).mono ?_;rintro e w1 ⟨rfl,a5,H⟩;have o:=HT.kept H D;have a0:=HK.trans H;have U:=H.at H0 (by simp);have l:=fN (H.at H2 (by simp));have c1:=fO l.out 0;dsimp at c1;go_wp21;refine(Gu (w.heap.size+1) _ 2 (uC [] 1 QH) DP w1 rfl rfl o a5 (by decide) (sG (by decide) _ _ Pv)).mono ?_;rintro e w2 ⟨rfl,a6,I⟩;have q:=o.kept I D;have a1:=a0.trans I;have V:=I.at U (by simp);have m:=fN (I.at l (by simp));have c2:=fO m.out 0;dsimp at c2;go_wp21;refine(Gu (w.heap.size+1) _ 4 (uC (uC [] 1 QH) 2 DP) JA w2 (by rfl) (by rfl) q a6 (by decide) (sG (by decide) _ _ (sG (by decide) _ _ Pv))).mono ?_;rintro e w3 ⟨rfl,a7,J⟩;have y:=q.kept J D;have a2:=a1.trans J;have Y:=J.at V (by simp);have n:=fN (J.at m (by simp));have c3:=fO n.out 0;dsimp at c3;go_wp21;refine(Gu (w.heap.size+1) _ 8 (uC (uC (uC [] 1 QH) 2 DP) 4 JA) Uf w3 (by rfl) (by rfl) y a7 (by decide) (sG (by decide) _ _ (sG (by decide) _ _ (sG (by decide) _ _ Pv)))).mono ?_;rintro e w4 ⟨rfl,a8,N⟩;have ab:=y.kept N D;have a3:=a2.trans N;have d:=fN (N.at Y (by simp));have Z:=fN (N.at n (by simp));have c4:=fO Z.out 0;have f4:=gu d 0;have aa:=fO d.out 0;dsimp at c4 aa;have a4:=(a3.mono (S':=[]) (λk hk hl=>by grind)).setCell (p:=⟨w.heap.size,0,none⟩) (.inr (gW _)) (.map (some (w.heap.size+1)));have a9:=a8.keeps (w':=w4.setCell ⟨w.heap.size,0,none⟩ (.map (some (w.heap.size+1)))) (Below.heap_setCell w4 ⟨w.heap.size,0,none⟩ _ _ (by simp));have c5:=fO (fV d 0 (.map (some (w.heap.size+1)))) 0;go_wp2;refine o0 (v:= .agg #[.map (some (w.heap.size+1))]) ?_ rfl ⟨w.heap.size+1,rfl,a9,a4,by omega⟩;simp[results,f30,go_sem,c5]
def Vi (L:List (gn×Nat)) (c:Nat) (s:gn):Bool:=decide (wB L s&&& c≠0)
def kQ:gn->Bool:=Vi rQ 2
def uw:gn->Bool:=Vi rQ 4
def iJ:gn->Bool:=Vi rQ 8
def Tt:∀s,wB rQ s < 16:=sG (by decide) _ _ (sG (by decide) _ _ (sG (by decide) _ _ (sG (by decide) _ _ Pv)))
theorem ZL (b1 b2 bm c:Nat) (L:List (gn×Nat)) (w:gr) (n:w.heap[b1]?=some (gy #[.map (some bm)] 88)) (A:w.heap[b2]?=some (gy #[ga c] 91)) (o:rP w bm (zJ L)) (U:c < 16) (D:∀s,wB L s < 16):
  nK [b1,b2,bm] (.func (.func 53) #[] #[gF b1,gF b2]) (Vi L c) w:=by
 refine⟨⟨_,_,rfl,enters_of func53 (by rfl) rfl,λW l s=>?_⟩,λe H=>?_⟩
 .have J:=fO (nR l (by simp) n) 0;have N:=fO (nR l (by simp) A) 0;dsimp at J N;have g:=EF (T:=86) (E:=91) (z:=ga 0) (by simp) (by simp) (o.keeps (l bm (by simp))) s;rw[H9]at g;have d:=WV _ c (D s) U;have I:Vi L c s=decide (wB L s&&& c≠0):=rfl;rw[I];generalize wB L s=q at g d|-;obtain⟨m,h⟩:∃m:Nat,m=q&&& c:=⟨_,rfl⟩;rw[<-h]at d|-;clear n A o l D h I;show Calls prog 53 #[gw s,gF b1,gF b2] W _;by_cases y:m=0
  .subst y;go_enter func53,ntmps53;go_wp2;go_ret;simp
  .have n:¬((m:Int)=0):=by omega
   rw[uR y];go_enter func53,ntmps53;go_wp2;go_ret;simp_all
 .simp at H;rcases H with rfl|rfl|rfl
  .grind
  .grind
  .exact o.lt
def aau (bB:Nat) (d:Int) (w:gr):
  Calls prog 96 #[gF bB,ga d] w λe w'=>e=ir (.func (.func 170) #[] #[gF w.heap.size,gF (w.heap.size+1)])/\w'=((w.alloc (gy #[gF bB] 117)).alloc (gy #[ga d] 173)):=by
 go_enter func96,ntmps96;go_wp2;go_ret;simp
def M3 (bB:Nat) (g:Fn) (d h:jE) (w:gr):
  Calls prog 88 #[gF bB,.func g d h] w λe w'=>e=ir (.func (.func 164) #[] #[gF w.heap.size])/\w'=(w.alloc (gy #[.func g d h] 207)):=by
 go_enter func88,ntmps88;go_wp2;go_ret;simp
def M4 (bB:Nat) (g:Fn) (d h:jE) (w:gr):
  Calls prog 120 #[gF bB,.func g d h] w λe w'=>e=ir (.func (.func 217) #[] #[gF (w.heap.size+1),gF w.heap.size])/\w'=((w.alloc (gy #[gF bB] 117)).alloc (gy #[.func g d h] 62)):=by
 go_enter func120,ntmps120;go_wp2;go_ret;simp
def aav (g:Fn) (d h:jE) (w:gr):
  Calls prog 124 #[.func g d h] w λe w'=>e=ir (.func (.func 222) #[] #[gF w.heap.size])/\w'=(w.alloc (gy #[.func g d h] 62)):=by
 go_enter func124,ntmps124;go_wp2;go_ret;simp
def M5 (bB:Nat) (g:Fn) (d h:jE) (w:gr):
  Calls prog 132 #[gF bB,.func g d h] w λe w'=>e=ir (.func (.func 227) #[] #[gF w.heap.size,gF (w.heap.size+1)])/\w'=((w.alloc (gy #[gF bB] 117)).alloc (gy #[.func g d h] 164)):=by
 go_enter func132,ntmps132;go_wp2;go_ret;simp
def Pq (bB:Nat) (g:Fn) (d h:jE) (l:Int) (w:gr):
  Calls prog 117 #[gF bB,.func g d h,ga l] w λe w'=>e=ir (.func (.func 214) #[] #[gF w.heap.size,gF (w.heap.size+1),gF (w.heap.size+1+1)])/\w'=(((w.alloc (gy #[gF bB] 117)).alloc (gy #[.func g d h] 85)).alloc (gy #[ga l] 173)):=by
 go_enter func117,ntmps117;go_wp2;go_ret;simp
def M6 (bB:Nat) (g:Fn) (d h:jE) (m:gn) (l:Int) (w:gr):
  Calls prog 119 #[gF bB,.func g d h,gw m,ga l] w λe w'=>e=ir (.func (.func 216) #[] #[gF w.heap.size,gF (w.heap.size+1),gF (w.heap.size+1+1),gF (w.heap.size+1+1+1)])/\w'=((((w.alloc (gy #[gF bB] 117)).alloc (gy #[.func g d h] 85)).alloc (gy #[gw m] 9)).alloc (gy #[ga l] 173)):=by
 go_enter func119,ntmps119;go_wp2;go_ret;exact⟨by simp,rfl⟩
def GK:List TypeId:=[176,136,138,280,65,121,295,161,72,168,67]
def Uv:List TypeId:=[176,136,138,280,65,121,295,161,168]
def N9 (h:t∈Uv):t∈GK:=by
 revert t;decide
def Calm (w:gr) (e:Nat):Prop:=(∃g d,w.heap[e]?=some (.map g d))\/∃c t,w.heap[e]?=some (gy c t)/\t∉GK
def Fr (bs:Nat) (w w':gr):Prop:=∃S,Kept S w w'/\∀k∈S,k < w.heap.size->(∃c t m,w.heap[k]?=some (.cells c t m)/\t∈Uv)/\bs<=k
def Fr.gP (h:Kept [] w w'):Fr bs w w':=⟨[],h,λ_ d=>by cases d⟩
def Fr.refl (w:gr):Fr bs w w:= .gP (Kept.refl _ _)
def Fr.size (h:Fr bs w w'):w.heap.size<=w'.heap.size:=by have⟨S,hk,_⟩:=h;exact hk.size
theorem Fr.calm (h:Fr bs w w') (n:Calm w e):w'.heap[e]?=w.heap[e]?:=by
 have⟨S,hk,hS⟩:=h;have d:e < w.heap.size:=by
  rcases n with⟨q,o,g⟩|⟨c,t,g,_⟩
  .grind
  .grind
 refine hk.block e d λy=>?_;have⟨⟨c,t,m,h2,ht⟩,_⟩:=hS e y d;rcases n with⟨q,o,g⟩|⟨A,D,g,l⟩
 .grind
 .rw[g]at h2;simp at h2;exact l (by rw[h2.2.1];exact N9 ht)
theorem Fr.trans {b c : gr} (h:Fr bs a b) (k:Fr bs b c):Fr bs a c:=by
 have⟨S1,k1,h1⟩:=h;have⟨S2,k2,h2⟩:=k;refine⟨S1++S2,(k1.mono (λx g _=>by simp[g])).trans (k2.mono (λx g _=>by simp[g])),λx g d=>?_⟩;by_cases l:x∈S1
 .grind
 .have n:x∈S2:=by simpa [l]using g
  have⟨⟨cc,t,m,hc,ht⟩,hbs⟩:=h2 x n (mf d k1.size);exact⟨⟨cc,t,m,(k1.block x d l).symm.trans hc,ht⟩,hbs⟩
def Fr.jC (h:Kept S w w') (d:∀k∈S,(∃c t m,w.heap[k]?=some (.cells c t m)/\t∈Uv)/\bs<=k):Fr bs w w':=⟨S,h,λk g _=>d k g⟩
def Fr.cell (h:Fr bs w w') (d:w.heap[e]?=some (gy c t)) (g:t∉GK):w'.heap[e]?=some (gy c t):=(h.calm (.inr ⟨c,t,d,g⟩)).trans d
def Fr.kept (h:Fr bs w w') (d:Kept [] a w) (m:a.heap.size<=bs):Kept [] a w':=by
 have⟨S,hS,hT⟩:=h;refine⟨hS.os.trans d.os,hS.tape.trans d.tape,hS.output.trans d.output,jH d.size hS.size,λk g _=>?_⟩;refine(hS.block k (mf g d.size) λl=>?_).trans (d.block k g (by simp));have:=(hT k l (mf g d.size)).2;omega
theorem Fr.zf (h:Fr bs w w') {m : Nat×Nat} (g:w.heap[e]?=some (.cells c t m)) (n:t∉Uv):w'.heap[e]?=some (.cells c t m):=by
 have⟨S,hS,hT⟩:=h;have d:e < w.heap.size:=(Array.getElem?_eq_some_iff.1 g).1;refine(hS.block e d λl=>?_).trans g;grind
def xv (bm:Nat) (w:gr) (e:Nat):Prop:=(e=bm/\∃g d,w.heap[e]?=some (.map g d))\/∃c t,w.heap[e]?=some (gy c t)/\t∉GK
def vE (bm:Nat) (w w':gr):Prop:=∃S,Kept S w w'/\∀k∈S,k < w.heap.size->(∃c t m,w.heap[k]?=some (.cells c t m)/\t∈GK)\/((∃g d,w.heap[k]?=some (.map g d))/\k≠bm)
def Fr.n (h:Fr bs w w') (bm:Nat):vE bm w w':=by
 have⟨S,hk,hS⟩:=h;exact⟨S,hk,λk d g=>by have⟨⟨c,t,m,h3,h4⟩,_⟩:=hS k d g;exact .inl ⟨c,t,m,h3,N9 h4⟩⟩
def vE.gP (h:Kept [] w w'):vE bm w w':=(Fr.gP (bs:=0) h).n bm
def vE.refl (bm:Nat) (w:gr):vE bm w w:= .gP (Kept.refl _ _)
def vE.size (h:vE bm w w'):w.heap.size<=w'.heap.size:=by have⟨S,hk,_⟩:=h;exact hk.size
theorem vE.of_map (h:Kept [b] w w') (m:∃g d,w.heap[b]?=some (.map g d)) (l:b≠bm):vE bm w w':=⟨[b],h,λk n _=>by grind⟩
theorem vE.calm (h:vE bm w w') (l:xv bm w e):w'.heap[e]?=w.heap[e]?:=by
 have⟨S,hk,hS⟩:=h;have g:e < w.heap.size:=by
  rcases l with⟨_,q,o,d⟩|⟨c,t,d,_⟩
  .grind
  .grind
 refine hk.block e g λI=>?_;rcases hS e I g with⟨c,t,m,H,U⟩|⟨⟨D,A,H⟩,J⟩
 .rcases l with⟨_,q,o,d⟩|⟨y,N,d,n⟩
  all_goals grind
 .rcases l with⟨e1,q,o,d⟩|⟨y,N,d,n⟩
  all_goals grind
theorem xv.fr (d:xv bm w e) (h:vE bm w w'):xv bm w' e:=by
 have e1:=h.calm d;grind[xv]
theorem vE.trans {b c : gr} (h:vE bm a b) (k:vE bm b c):vE bm a c:=by
 have⟨S1,k1,h1⟩:=h;have⟨S2,k2,h2⟩:=k;refine⟨S1++S2,(k1.mono (λx d _=>by simp[d])).trans (k2.mono (λx d _=>by simp[d])),λx d l=>?_⟩;by_cases g:x∈S1
 .grind
 .have m:x∈S2:=by simpa [g]using d
  have e:=k1.block x l g;grind
def vE.cell (h:vE bm w w') (d:w.heap[e]?=some (gy c t)) (g:t∉GK):w'.heap[e]?=some (gy c t):=(h.calm (.inr ⟨c,t,d,g⟩)).trans d
def yh (w:gr):Prop:=rh w/\∃c t,w.heap[1]?=some (gy c t)/\t∉GK
theorem yh.fr (d:yh w) (h:vE bm w w'):yh w':=by
 have⟨hb1,c,t,hc,ht⟩:=d;have e1:=h.calm (.inr ⟨c,t,hc,ht⟩);refine⟨?_,c,t,e1.trans hc,ht⟩;unfold rh Lib.TabIs World.var? at hb1|-;have e:prog.globalNamed "strings.asciiSpace"=some 1:=rfl;grind
def Ask (bm:Nat) (v:gG) (p:gn->Bool) (w:gr):Prop:=∃E,nK E v p w/\∀e∈E,xv bm w e
def Ask.fr (h:Ask bm v p w) (d:vE bm w w'):Ask bm v p w':=by
 have⟨E,hA,hC⟩:=h;exact⟨E,hA.keeps (λk l=>d.calm (hC k l)) d.size,λe g=>(hC e g).fr d⟩
def Ask.call (h:Ask bm v p w):∃k d,v= .func (.func k) #[] d/\(∀args w,(callFunc k args).run prog w= .ok (.enter k args) w)/\∀W,vE bm w W->∀s,Calls prog k (#[gw s]++d) W λe g=>e=ir (.bool (p s))/\g=W:=by
 have⟨E,hA,hC⟩:=h;have⟨k,d,hv,he,ha⟩:=hA.ex;exact⟨k,d,hv,he,λW m s=>ha W (λe l=>m.calm (hC e l)) s⟩
def MY (bm g cap:Nat) (d:List gn) (w:gr) (q:w.heap[g]?=some (gy (d.map Value.string).toArray 9)) (h:d.length<=4096):
  Calls prog 215 #[nI g d.length cap] w λe w'=>(∃v,e=ir v/\Ask bm v (hH d) w')/\Kept [] w w':=by
 refine(abS g cap d.length w).mono ?_;rintro e w' ⟨rfl,rfl⟩;have o:Kept [] w (w.alloc (gy #[nI g d.length cap] 200)):=(Kept.refl _ _).alloc _;have l:=fQ w (gy #[nI g d.length cap] 200);have m:=o.at q (by simp);refine⟨⟨_,rfl,_,XZ _ g cap d _ l m h,λe n=>?_⟩,o⟩;simp at n;rcases n with rfl|rfl
 .exact .inr ⟨_,_,l,by decide⟩
 .exact .inr ⟨_,_,m,by decide⟩
def Tf (bm c:Nat) (L:List (gn×Nat)) (w:gr) (y:rP w bm (zJ L)) (q:c < 16) (o:∀s,wB L s < 16):
  Calls prog 31 #[.agg #[.map (some bm)],ga c] w λe w'=>(∃v,e=ir v/\Ask bm v (Vi L c) w')/\Kept [] w w':=by
 have h:Calls prog 31 #[.agg #[.map (some bm)],ga c] w λe w'=>e=ir (.func (.func 53) #[] #[gF w.heap.size,gF (w.heap.size+1)])/\w'=(w.alloc (gy #[.map (some bm)] 88)).alloc (gy #[ga c] 91):=by
  go_enter func31,ntmps31;go_wp2;go_ret;exact⟨by simp,rfl⟩
 refine h.mono ?_;rintro e w' ⟨rfl,rfl⟩;have A:Kept [] w (w.alloc (gy #[.map (some bm)] 88)):=(Kept.refl _ _).alloc _;have m:=A.alloc (gy #[ga c] 91);have d:=fQ (w.alloc (gy #[.map (some bm)] 88)) (gy #[ga c] 91);rw[yc]at d;have g:=(Below.heap_alloc (w.alloc (gy #[.map (some bm)] 88)) (gy #[ga c] 91) w.heap.size (by simp)).trans (fQ w _);have n:=y.kept m (by simp);refine⟨⟨_,rfl,_,ZL _ _ bm c L _ g d n q o,λe l=>?_⟩,m⟩;simp at l;rcases l with rfl|rfl|rfl
 .exact .inr ⟨_,_,g,by decide⟩
 .exact .inr ⟨_,_,d,by decide⟩
 .have⟨es,ck,ha,_⟩:=n;exact .inl ⟨rfl,es,ck,ha⟩
theorem Lx {d g : List Nat} {b1 b2 : Nat} (h:xv bm w b1) (l:xv bm w b2) (c1:∀e∈d,xv bm w e) (c2:∀e∈g,xv bm w e):∀e∈b1::b2::(d++g),xv bm w e:=by
 grind
def adg (bm:Nat) (v1 v2:gG) (p q:gn->Bool) (w:gr) (n:Ask bm v1 p w) (o:Ask bm v2 q w):
  Calls prog 235 #[v1,v2] w λe w'=>(∃v,e=ir v/\Ask bm v (λs=>p s||q s) w')/\Kept [] w w':=by
 have⟨E1,a1,c1⟩:=n;have⟨E2,a2,c2⟩:=o;refine(aaH E1 E2 v1 v2 p q w a1 a2).mono ?_;rintro e w' ⟨⟨v,rfl,m,h,l⟩,g⟩;exact⟨⟨v,rfl,_,m,Lx (.inr ⟨_,_,h,by decide⟩) (.inr ⟨_,_,l,by decide⟩) (λe d=>(c1 e d).fr (.gP g)) (λe d=>(c2 e d).fr (.gP g))⟩,g⟩
def aay (bm:Nat) (v1:gG) (p:gn->Bool) (w:gr) (m:Ask bm v1 p w):
  Calls prog 234 #[v1] w λe w'=>(∃v,e=ir v/\Ask bm v (λs=>!p s) w')/\Kept [] w w':=by
 have⟨E1,a1,c1⟩:=m;refine(Yp E1 v1 p w a1).mono ?_;rintro e w' ⟨⟨v,rfl,l,h⟩,g⟩;refine⟨⟨v,rfl,_,l,λe d=>?_⟩,g⟩;simp at d;rcases d with rfl|d
 .exact .inr ⟨_,_,h,by decide⟩
 .exact(c1 e d).fr (.gP g)
inductive Ru
 |nil
 |nothing
 |gZ (f:Nat)
 |pd (m:Int)
 |gJ (pf:Nat) (own:Bool)
 |ahead (f:Nat)
 |ends (f:Nat)
 |MR (r:Ru)
 |rp (ks:List gn) (m:Int)
 |nF (ks:List gn) (name:gn) (m:Int)
 |item (ks:List gn)
variable {R : List (List gn×Ru)} {ms : List (Nat×List (List gn×Ru))} {r : Ru} {rs : List (Ru×gG)}
abbrev iq (b:Nat):gG:=gF b
abbrev box (w:gr) (b:Nat) (v:gG) (t:TypeId):Prop:=w.heap[b]?=some (gy #[v] t)
def nr (bm bB bD:Nat):Ru->gG->gr->Prop
 | .nil,v,_=>v= .nilFunc
 | .nothing,v,_=>v= .func (.func 87) #[] #[]
 | .gZ f,v,_=>v= .func (.func f) #[iq bB] #[]
 | .pd m,v,w=>∃b1 b2,v= .func (.func 170) #[] #[iq b1,iq b2]/\box w b1 (iq bB) 117/\box w b2 (ga m) 173
 | .gJ pf own,v,w=>∃b1,v= .func (.func 164) #[] #[iq b1]/\box w b1 (.func (.func pf) #[iq (if own then bB else bD)] #[]) 207
 | .ahead f,v,w=>∃b1 b2,v= .func (.func 217) #[] #[iq b2,iq b1]/\box w b1 (iq bB) 117/\box w b2 (.func (.func f) #[iq bB] #[]) 62
 | .ends f,v,w=>∃b1,v= .func (.func 222) #[] #[iq b1]/\box w b1 (.func (.func f) #[iq bB] #[]) 62
 | .MR r,v,w=>∃b1 b2 u,v= .func (.func 227) #[] #[iq b1,iq b2]/\box w b1 (iq bB) 117/\box w b2 u 164/\nr bm bB bD r u w
 | .rp ks m,v,w=>∃b1 b2 b3 u,v= .func (.func 214) #[] #[iq b1,iq b2,iq b3]/\box w b1 (iq bB) 117/\box w b2 u 85/\Ask bm u (hH ks) w/\box w b3 (ga m) 173
 | .nF ks name m,v,w=>∃b1 b2 b3 b4 u,v= .func (.func 216) #[] #[iq b1,iq b2,iq b3,iq b4]/\box w b1 (iq bB) 117/\box w b2 u 85/\Ask bm u (hH ks) w/\box w b3 (gw name) 9/\box w b4 (ga m) 173
 | .item ks,v,w=>∃b1 b2 b3 d g,v= .func (.func 271) #[] #[iq b1,iq b2,iq b3]/\box w b1 (iq bB) 117/\box w b2 d 85/\Ask bm d (hH ks) w/\box w b3 g 85/\Ask bm g (λs=>kQ s&&!hH [jI,mX] s) w
def box.fr (h:box w b v t) (d:vE bm w w') (g:t∉GK):box w' b v t:=d.cell h g
def nr.fr:∀{r:Ru} {v:gG} {w w':gr},nr bm bB bD r v w->vE bm w w'->nr bm bB bD r v w'
 | .nil,_,_,_,h,_=>h
 | .nothing,_,_,_,h,_=>h
 | .gZ _,_,_,_,h,_=>h
 | .pd _,_,_,_,⟨b1,b2,e,h1,h2⟩,hf=>⟨b1,b2,e,box.fr h1 hf (by decide),box.fr h2 hf (by decide)⟩
 | .gJ _ _,_,_,_,⟨b1,e,h1⟩,hf=>⟨b1,e,box.fr h1 hf (by decide)⟩
 | .ahead _,_,_,_,⟨b1,b2,e,h1,h2⟩,hf=>⟨b1,b2,e,box.fr h1 hf (by decide),box.fr h2 hf (by decide)⟩
 | .ends _,_,_,_,⟨b1,e,h1⟩,hf=>⟨b1,e,box.fr h1 hf (by decide)⟩
 | .MR _,_,_,_,⟨b1,b2,u,e,h1,h2,hr⟩,hf=>⟨b1,b2,u,e,box.fr h1 hf (by decide),box.fr h2 hf (by decide),hr.fr hf⟩
 | .rp _ _,_,_,_,⟨b1,b2,b3,u,e,h1,h2,ha,h3⟩,hf=>⟨b1,b2,b3,u,e,box.fr h1 hf (by decide),box.fr h2 hf (by decide),ha.fr hf,box.fr h3 hf (by decide)⟩
 | .nF _ _ _,_,_,_,⟨b1,b2,b3,b4,u,e,h1,h2,ha,h3,h4⟩,hf=>⟨b1,b2,b3,b4,u,e,box.fr h1 hf (by decide),box.fr h2 hf (by decide),ha.fr hf,box.fr h3 hf (by decide),box.fr h4 hf (by decide)⟩
 | .item _,_,_,_,⟨b1,b2,b3,u1,u2,e,h1,h2,ha,h3,hb⟩,hf=>⟨b1,b2,b3,u1,u2,e,box.fr h1 hf (by decide),box.fr h2 hf (by decide),ha.fr hf,box.fr h3 hf (by decide),hb.fr hf⟩
def oW:List (List gn×Ru)->gn->Option Ru
 |[],_=>none
 |p::R,k=>if hH p.1 k then some p.2 else oW R k
def IsMap (bm bB bD b:Nat) (R:List (List gn×Ru)) (v:gG) (w:gr):Prop:=
 ∃L,v= .map (some b)/\rP w b L/\∀k,match oW R k with
  |some r=>∃u,zv L k=some u/\nr bm bB bD r u w
  |none=>zv L k=none
theorem IsMap.fr (h:IsMap bm bB bD b R v w) (g:vE bm w w') (d:w'.heap[b]?=w.heap[b]?):IsMap bm bB bD b R v w':=by
 have⟨L,e,hm,hr⟩:=h;refine⟨L,e,hm.keeps d,λk=>?_⟩;have:=hr k;cases hq:oW R k with
 |none=>grind
 |some r=>rw[hq]at this;have⟨u,hu,hi⟩:=this;exact⟨u,hu,hi.fr g⟩
theorem Lg:∀(L:List (gn×gG)) (k:gn) (v:gG) (s:gn),zv (BN L k v) s=if kh s k then some v else zv L s
 |[],k,v,s=>rfl
 |p::L,k,v,s=>by
  unfold BN;by_cases d:kh k p.1=true
  .grind[zv,kh,BN]
  .rw[gI d];unfold zv;rw[Lg L k v s];grind[kh]
theorem O1 (v:gG) (s:gn) (ks:List gn):∀(L:List (gn×gG)),zv (yK L ks v) s=if hH ks s then some v else zv L s:=by
 induction ks with
 |nil=>grind[zv,yK,hH]
 |cons k ks ih=>
  intro L;show zv (yK (BN L k v) ks v) s=_;rw[ih,Lg];grind[hH]
theorem IsMap.at (h:IsMap bm bB bD b R v w):∃g d,w.heap[b]?=some (.map g d):=by
 have⟨L,e,⟨g,d,ha,_⟩,hr⟩:=h;grind
theorem Sk (bm bB bD b:Nat) (s:gn) (ks:List gn) (r:Ru) (R:List (List gn×Ru)) (v:gG) (w:gr) (q:pO s=true) (l:words s=ks) (y:yh w) (o:IsMap bm bB bD b R (.map (some b)) w) (m:b≠bm) (A:nr bm bB bD r v w):
  Calls prog 92 #[.map (some b),gw s,v] w λe w'=>e=ir (.map (some b))/\IsMap bm bB bD b ((ks,r)::R) (.map (some b)) w'/\Kept [b] w w'/\vE bm w w':=by
 have g:=o.at;have⟨L,_,hM,hR⟩:=o;refine(aei b s v L w q y.1 hM).mono ?_;rintro e w' ⟨rfl,d,n⟩;have h:=vE.of_map n g m;rw[l]at d;refine⟨rfl,⟨_,rfl,d,λk=>?_⟩,n,h⟩;rw[O1];unfold oW;cases hq:hH ks k with
 |true=>simp;exact A.fr h
 |false=>
  simp;have:=hR k;cases hq2:oW R k with
  |none=>grind
  |some r2=>rw[hq2]at this;have⟨u,hu,hi⟩:=this;exact⟨u,hu,hi.fr h⟩
def TN (bm bB bD:Nat) (w:gr):IsMap bm bB bD w.heap.size [] (.map (some w.heap.size)) (w.alloc (.map #[] 0)):=⟨[],rfl,rP.new w,λ_=>rfl⟩
theorem sd (w:gr) (d g:Obj):((w.alloc d).alloc g).heap[w.heap.size]?=some d/\((w.alloc d).alloc g).heap[w.heap.size+1]?=some g:=by
 refine⟨(Below.heap_alloc _ _ _ (by simp)).trans (fQ w _),?_⟩;have:=fQ (w.alloc d) g;simp_all
theorem oc (w:gr) (d g h:Obj):(((w.alloc d).alloc g).alloc h).heap[w.heap.size]?=some d/\(((w.alloc d).alloc g).alloc h).heap[w.heap.size+1]?=some g/\(((w.alloc d).alloc g).alloc h).heap[w.heap.size+1+1]?=some h:=by
 have⟨h1,h2⟩:=sd w d g;refine⟨(Below.heap_alloc _ _ _ (by grind)).trans h1,(Below.heap_alloc _ _ _ (by simp)).trans h2,?_⟩;have:=fQ ((w.alloc d).alloc g) h;simp_all
theorem FC (w:gr) (d g h l:Obj):((((w.alloc d).alloc g).alloc h).alloc l).heap[w.heap.size]?=some d/\((((w.alloc d).alloc g).alloc h).alloc l).heap[w.heap.size+1]?=some g/\((((w.alloc d).alloc g).alloc h).alloc l).heap[w.heap.size+1+1]?=some h/\((((w.alloc d).alloc g).alloc h).alloc l).heap[w.heap.size+1+1+1]?=some l:=by
 have⟨h1,h2,h3⟩:=oc w d g h;refine⟨(Below.heap_alloc _ _ _ (by grind)).trans h1,(Below.heap_alloc _ _ _ (by simp)).trans h2,(Below.heap_alloc _ _ _ (by simp)).trans h3,?_⟩;have:=fQ (((w.alloc d).alloc g).alloc h) l;simp_all
abbrev zc (bm bB bD:Nat) (r:Ru) (w:gr) (e:Ending) (w':gr):Prop:=(∃v,e=ir v/\nr bm bB bD r v w')/\Kept [] w w'
def pr (bm bB bD:Nat) (m:Int) (w:gr):Calls prog 96 #[iq bB,ga m] w (zc bm bB bD (.pd m) w):=by
 refine(aau bB m w).mono ?_;rintro e w' ⟨rfl,rfl⟩;have⟨h1,h2⟩:=sd w (gy #[iq bB] 117) (gy #[ga m] 173);exact⟨⟨_,rfl,_,_,rfl,h1,h2⟩,((Kept.refl _ _).alloc _).alloc _⟩
def oh (bm bB bD d:Nat) (own:Bool) (w:gr):Calls prog 88 #[iq bB,.func (.func d) #[iq (if own then bB else bD)] #[]] w (zc bm bB bD (.gJ d own) w):=by
 refine(M3 bB (.func d) #[iq (if own then bB else bD)] #[] w).mono ?_;rintro e w' ⟨rfl,rfl⟩;exact⟨⟨_,rfl,_,rfl,fQ w _⟩,(Kept.refl _ _).alloc _⟩
def nY (bm bB bD f:Nat) (w:gr):Calls prog 120 #[iq bB,.func (.func f) #[iq bB] #[]] w (zc bm bB bD (.ahead f) w):=by
 refine(M4 bB (.func f) #[iq bB] #[] w).mono ?_;rintro e w' ⟨rfl,rfl⟩;have⟨h1,h2⟩:=sd w (gy #[iq bB] 117) (gy #[.func (.func f) #[iq bB] #[]] 62);exact⟨⟨_,rfl,_,_,rfl,h1,h2⟩,((Kept.refl _ _).alloc _).alloc _⟩
def wO (bm bB bD f:Nat) (w:gr):Calls prog 124 #[.func (.func f) #[iq bB] #[]] w (zc bm bB bD (.ends f) w):=by
 refine(aav (.func f) #[iq bB] #[] w).mono ?_;rintro e w' ⟨rfl,rfl⟩;exact⟨⟨_,rfl,_,rfl,fQ w _⟩,(Kept.refl _ _).alloc _⟩
theorem nr.func (h:nr bm bB bD r v w) (d:r≠ .nil):∃f a l,v= .func f a l:=by
 cases r with
 |nil=>grind
 |nothing=>exact⟨_,_,_,h⟩
 |gZ f=>exact⟨_,_,_,h⟩
 |pd m=>have⟨_,_,e,_⟩:=h;grind
 |gJ a b=>have⟨_,e,_⟩:=h;grind
 |ahead f=>have⟨_,_,e,_⟩:=h;grind
 |ends f=>have⟨_,e,_⟩:=h;grind
 |MR r=>have⟨_,_,_,e,_⟩:=h;grind
 |rp a b=>have⟨_,_,_,_,e,_⟩:=h;grind
 |nF a b c=>have⟨_,_,_,_,_,e,_⟩:=h;grind
 |item a=>have⟨_,_,_,_,_,e,_⟩:=h;grind
def Ja (bm bB bD:Nat) (r:Ru) (u:gG) (w:gr) (h:r≠ .nil) (g:nr bm bB bD r u w):Calls prog 132 #[iq bB,u] w (zc bm bB bD (.MR r) w):=by
 obtain⟨f,a,l,rfl⟩:=g.func h;refine(M5 bB f a l w).mono ?_;rintro e w' ⟨rfl,rfl⟩;have⟨h1,h2⟩:=sd w (gy #[iq bB] 117) (gy #[.func f a l] 164);have d:Kept [] w ((w.alloc (gy #[iq bB] 117)).alloc (gy #[.func f a l] 164)):=((Kept.refl _ _).alloc _).alloc _;exact⟨⟨_,rfl,_,_,_,rfl,h1,h2,g.fr (.gP d)⟩,d⟩
theorem Ask.func (h:Ask bm v p w):∃f a l,v= .func f a l:=by
 have⟨k,lb,e,_⟩:=h.call;grind
def AO (bm bB bD:Nat) (ks:List gn) (m:Int) (u:gG) (w:gr) (g:Ask bm u (hH ks) w):Calls prog 117 #[iq bB,u,ga m] w (zc bm bB bD (.rp ks m) w):=by
 obtain⟨f,a,l,rfl⟩:=g.func;refine(Pq bB f a l m w).mono ?_;rintro e w' ⟨rfl,rfl⟩;have⟨h1,h2,h3⟩:=oc w (gy #[iq bB] 117) (gy #[.func f a l] 85) (gy #[ga m] 173);have d:Kept [] w (((w.alloc (gy #[iq bB] 117)).alloc (gy #[.func f a l] 85)).alloc (gy #[ga m] 173)):=(((Kept.refl _ _).alloc _).alloc _).alloc _;exact⟨⟨_,rfl,_,_,_,_,rfl,h1,h2,g.fr (.gP d),h3⟩,d⟩
def BV (bm bB bD:Nat) (ks:List gn) (name:gn) (m:Int) (u:gG) (w:gr) (g:Ask bm u (hH ks) w):Calls prog 119 #[iq bB,u,gw name,ga m] w (zc bm bB bD (.nF ks name m) w):=by
 obtain⟨f,a,l,rfl⟩:=g.func;refine(M6 bB f a l name m w).mono ?_;rintro e w' ⟨rfl,rfl⟩;have⟨h1,h2,h3,h4⟩:=FC w (gy #[iq bB] 117) (gy #[.func f a l] 85) (gy #[gw name] 9) (gy #[ga m] 173);have d:Kept [] w ((((w.alloc (gy #[iq bB] 117)).alloc (gy #[.func f a l] 85)).alloc (gy #[gw name] 9)).alloc (gy #[ga m] 173)):=((((Kept.refl _ _).alloc _).alloc _).alloc _).alloc _;exact⟨⟨_,rfl,_,_,_,_,_,rfl,h1,h2,g.fr (.gP d),h3,h4⟩,d⟩
structure mB where
 blank:Ru:= .nil
 jW:Ru:= .nil
 gJ:Ru:= .nil
 iH:Ru:= .nil
 ie:Ru:= .nil
 start:Option (List (List gn×Ru)):=none
 stop:Option (List (List gn×Ru)):=none
 jK:Ru:= .nil
 j9:Ru:= .nil
 iy:Ru:= .nil
variable {sp : mB}
def ri (bm bB bD:Nat):Option (List (List gn×Ru))->gG->gr->Prop
 |none,v,_=>v= .map none
 |some R,v,w=>∃b,IsMap bm bB bD b R v w
theorem IsMap.lt (h:IsMap bm bB bD b R v w):b < w.heap.size:=by
 have⟨es,ck,ha⟩:=h.at;grind
def ri.ib {R : Option (List (List gn×Ru))} (h:ri bm bB bD R v w) (d:Kept [] w w'):ri bm bB bD R v w':=by
 cases R with
 |none=>exact h
 |some R=>
  have⟨b,hm⟩:=h;exact⟨b,hm.fr (.gP d) (d.block b hm.lt (by simp))⟩
structure kG (bm bB bD:Nat) (sp:mB) (v0 v1 v2 v3 v4 v5 v6 v7 v8 v9:gG) (w:gr):Prop where
 blank:nr bm bB bD sp.blank v0 w
 jW:nr bm bB bD sp.jW v1 w
 gJ:nr bm bB bD sp.gJ v2 w
 iH:nr bm bB bD sp.iH v3 w
 ie:nr bm bB bD sp.ie v4 w
 start:ri bm bB bD sp.start v5 w
 stop:ri bm bB bD sp.stop v6 w
 jK:nr bm bB bD sp.jK v7 w
 j9:nr bm bB bD sp.j9 v8 w
 iy:nr bm bB bD sp.iy v9 w
def kG.ib (h:kG bm bB bD sp v0 v1 v2 v3 v4 v5 v6 v7 v8 v9 w) (d:Kept [] w w'):kG bm bB bD sp v0 v1 v2 v3 v4 v5 v6 v7 v8 v9 w':=
 have f:vE bm w w':= .gP d
 ⟨h.blank.fr f,h.jW.fr f,h.gJ.fr f,h.iH.fr f,h.ie.fr f,h.start.ib d,h.stop.ib d,h.jK.fr f,h.j9.fr f,h.iy.fr f⟩
def jF (bm bB bD:Nat) (sp:mB) (w:gr) (e:Ending) (w':gr):Prop:=
 ∃v0 v1 v2 v3 v4 v5 v6 v7 v8 v9,e=ir (.agg #[v0,v1,v2,v3,v4,v5,v6,v7,v8,v9])/\kG bm bB bD sp v0 v1 v2 v3 v4 v5 v6 v7 v8 v9 w'/\Kept [] w w'
def BD (bB bD:Nat) (w:gr):Prop:=w.cell? ⟨bB,187,none⟩=some (iq bD)/\bB < w.heap.size
def BD.ib (h:BD bB bD w) (d:Kept [] w w'):BD bB bD w':=⟨(d.cell (p:=⟨bB,187,none⟩) h.2 (by simp)).trans h.1,mf h.2 d.size⟩
abbrev tX:jE:=#[.nilFunc,.nilFunc,.nilFunc,.nilFunc,.nilFunc,.map none,.map none,.nilFunc,.nilFunc,.nilFunc]
def sn (w:gr) (o:Obj):∃W,W=w.alloc o/\Kept [] w W/\W.heap[w.heap.size]?=some o/\W.heap.size=w.heap.size+1:=⟨_,rfl,(Kept.refl _ _).alloc _,fQ w _,by simp⟩
theorem ri.Ip {R : Option (List (List gn×Ru))} (h:ri bm bB bD R v w) (g:Kept [s] w w') (l:w.heap[s]?=some (gy c t)) (f:vE bm w w'):ri bm bB bD R v w':=by
 cases R with
 |none=>exact h
 |some R=>
  have⟨b,hb⟩:=h;refine⟨b,hb.fr f (g.block b hb.lt ?_)⟩;intro d;have e:=List.mem_singleton.1 d;have⟨es,ck,ha⟩:=hb.at;grind
def kG.Ip (h:kG bm bB bD sp v0 v1 v2 v3 v4 v5 v6 v7 v8 v9 w) (d:Kept [s] w w') (l:w.heap[s]?=some (gy c 168)):kG bm bB bD sp v0 v1 v2 v3 v4 v5 v6 v7 v8 v9 w':=
 have f:vE bm w w':=⟨_,d,λk g _=>by
  have e:=List.mem_singleton.1 g;subst e;exact .inl ⟨_,_,_,l,by decide⟩⟩
 ⟨h.blank.fr f,h.jW.fr f,h.gJ.fr f,h.iH.fr f,h.ie.fr f,h.start.Ip d l f,h.stop.Ip d l f,h.jK.fr f,h.j9.fr f,h.iy.fr f⟩
def PM (v0 v1 v2 v3 v4 v5 v6 v7 v8 v9:gG):jj tX 0 [v0,v1,v2,v3,v4,v5,v6,v7,v8,v9]=#[v0,v1,v2,v3,v4,v5,v6,v7,v8,v9]:=by
 simp[jj]
def kg (h:w.heap[s]?=some (gy tX 168)):w.cell? ⟨s,0,none⟩=some .nilFunc/\w.cell? ⟨s,1,none⟩=some .nilFunc/\w.cell? ⟨s,2,none⟩=some .nilFunc/\w.cell? ⟨s,3,none⟩=some .nilFunc/\w.cell? ⟨s,4,none⟩=some .nilFunc/\w.cell? ⟨s,5,none⟩=some (.map none)/\w.cell? ⟨s,6,none⟩=some (.map none)/\w.cell? ⟨s,7,none⟩=some .nilFunc/\w.cell? ⟨s,8,none⟩=some .nilFunc/\w.cell? ⟨s,9,none⟩=some .nilFunc:=by
 simp only[fO h];simp
def jv (h:w1.heap[w.heap.size]?=some (gy tX 168)) (n:Kept [] w w1) (o:kG bm bB bD sp v0 v1 v2 v3 v4 v5 v6 v7 v8 v9 w1) (W:gr) (d:W=w1.setCells w.heap.size 0 [v0,v1,v2,v3,v4,v5,v6,v7,v8,v9]):
  W.heap[w.heap.size]?=some (gy #[v0,v1,v2,v3,v4,v5,v6,v7,v8,v9] 168)/\kG bm bB bD sp v0 v1 v2 v3 v4 v5 v6 v7 v8 v9 W/\Kept [] w W:=by
 have m:=j5 [v0,v1,v2,v3,v4,v5,v6,v7,v8,v9] w1 w.heap.size tX _ _ 0 h;have g:Kept [w.heap.size] w1 W:=by rw[d];exact Kept.setCells (.inl (by simp)) _ _ (Kept.refl _ _)
 have l:Kept [] w W:=by rw[d];exact Kept.setCells (.inr (gW _)) _ _ n
 rw[PM,<-d]at m;exact⟨m,o.Ip g h,l⟩
def km {t : Nat} {h:Func} {a : Act} (d:h.results=#[.cell t 168]) (o:a.tmps.getD t undef=gF w.heap.size) (m:a.defers=[])
  (n:W.heap[w.heap.size]?=some (gy #[v0,v1,v2,v3,v4,v5,v6,v7,v8,v9] 168)/\kG bm bB bD sp v0 v1 v2 v3 v4 v5 v6 v7 v8 v9 W/\Kept [] w W):bodyPost prog h (jF bm bB bD sp w) .ret a W:=by
 have⟨hg,hr,hk⟩:=n;refine o0 (v:= .agg #[v0,v1,v2,v3,v4,v5,v6,v7,v8,v9]) ?_ m ⟨_,_,_,_,_,_,_,_,_,_,rfl,hr,hk⟩;have l:=fO hg;have g:a.tmps[t]?.getD undef=gF w.heap.size:=by simpa using o
 simp only[results,d];simp[g,asAddr,Result.andThen,go_sem,l]
def VL (bm bB bD:Nat) (w:gr) (n:BD bB bD w) (y:yh w) (o:bm < w.heap.size):
  Calls prog 59 #[iq bB] w (jF bm bB bD {blank:= .nothing,gJ:= .gJ 89 false,iH:= .gZ 90,iy:= .gZ 91} w):=by
 have q:=@run_makeMap prog;have⟨W0,HW0,HK0,HG0,HZ0⟩:=sn w (gy tX 168);have⟨wZ,hBl⟩:=n;go_enter func59,ntmps59;go_wp21;refine(oh bm bB bD 89 false _).mono ?_;rintro e w1 ⟨⟨A,rfl,g⟩,h⟩;have⟨f1,a1,l1,hv1⟩:=g.func (by simp);subst hv1;have l:=fN g;have m:Kept [] w w1:=(HW0▸HK0).trans h;have d:=h.at (HW0▸HG0) (by simp);have HS:=fN (jv (v0:= .func (.func 87) #[] #[]) (v1:= .nilFunc) (v2:= .func f1 a1 l1) (v3:= .func (.func 90) #[iq bB] #[]) (v4:= .nilFunc) (v5:= .map none) (v6:= .map none) (v7:= .nilFunc) (v8:= .nilFunc) (v9:= .func (.func 91) #[iq bB] #[])
  (sp:={blank:= .nothing,gJ:= .gJ 89 false,iH:= .gZ 90,iy:= .gZ 91}) d m ⟨rfl,rfl,l,rfl,rfl,rfl,rfl,rfl,rfl,rfl⟩ _ rfl)
 clear g;have⟨q0,q1,q2,q3,q4,q5,q6,q7,q8,q9⟩:=kg d;have u:=gu d;go_wp2;exact km results59 rfl rfl HS
structure St (bm bB bD:Nat) (w cw:gr) (rs:List (Ru×gG)) (ms:List (Nat×List (List gn×Ru))):Prop where
 k:Kept [] w cw
 g:cw.heap[w.heap.size]?=some (gy tX 168)
 t:yh cw
 lt:bm < w.heap.size
 Ws:∀p∈rs,nr bm bB bD p.1 p.2 cw
 DX:∀p∈ms,IsMap bm bB bD p.1 p.2 (.map (some p.1)) cw/\w.heap.size<=p.1/\p.1≠bm
 nd:(ms.map (·.1)).Nodup
def St.start (bm bB bD:Nat) (w:gr) (g:yh w) (d:bm < w.heap.size):∃W,W=w.alloc (gy tX 168)/\St bm bB bD w W [] []:=
 ⟨_,rfl,(Kept.refl _ _).alloc _,fQ w _,g.fr (bm:=bm) (.gP ((Kept.refl _ _).alloc _)),d,(λ_ h=>(by cases h)),(λ_ h=>(by cases h)),(by simp)⟩
def St.zI (s:St bm bB bD w cw rs ms) (g:Kept [] cw cw'):St bm bB bD w cw' rs ms:=
 have f:vE bm cw cw':= .gP g
 ⟨s.k.trans g,g.at s.g (by simp),s.t.fr f,s.lt,λp d=>(s.Ws p d).fr f,λp d=>⟨(s.DX p d).1.fr f (g.block _ (s.DX p d).1.lt (by simp)),(s.DX p d).2⟩,s.nd⟩
def St.call (s:St bm bB bD w cw rs ms) (h:Kept [] cw cw') (l:nr bm bB bD r v cw'):St bm bB bD w cw' ((r,v)::rs) ms:=
 have d:=s.zI h
 ⟨d.k,d.g,d.t,d.lt,λp g=>by
  rcases List.mem_cons.1 g with rfl|g
  .exact l
  .exact d.Ws p g,d.DX,d.nd⟩
def St.map (s:St bm bB bD w cw rs ms):∃W b,W=cw.alloc (.map #[] 0)/\b=cw.heap.size/\St bm bB bD w W rs ((b,[])::ms):=by
 have h:Kept [] cw (cw.alloc (.map #[] 0)):=(Kept.refl _ _).alloc _;have d:=s.zI h;refine⟨_,_,rfl,rfl,d.k,d.g,d.t,d.lt,d.Ws,λp g=>?_,?_⟩
 .rcases List.mem_cons.1 g with rfl|g
  .exact⟨TN bm bB bD cw,s.k.size,by have:=s.k.size;have:=s.lt;omega⟩
  .exact d.DX p g
 .rw[y8,JH];refine⟨λl=>?_,s.nd⟩;have⟨p,g,e⟩:=List.mem_map.1 l;have:=(s.DX p g).1.lt;omega
theorem St.on {o : List (List gn×Ru)} (s:St bm bB bD w cw rs ((b,R)::ms)) (m:Kept [b] cw cw') (l:vE bm cw cw') (A:IsMap bm bB bD b o (.map (some b)) cw'):St bm bB bD w cw' rs ((b,o)::ms):=by
 have q:=s.DX (b,R) (by simp);have n:=s.nd;rw[y8,JH]at n;refine⟨s.k.next m (λx D=> .inr (by grind)),m.at s.g ?_,s.t.fr l,s.lt,λp g=>(s.Ws p g).fr l,λp g=>?_,s.nd⟩
 .intro d;have e:=List.mem_singleton.1 d;have⟨es,ck,ha⟩:=q.1.at;have y:=s.g;grind
 .rcases List.mem_cons.1 g with rfl|g
  .grind
  .have h:=s.DX p (pX _ g);refine⟨h.1.fr l (m.block _ h.1.lt λd=>?_),h.2⟩;grind
def St.at (s:St bm bB bD w cw rs ms) (h:(r,v)∈rs):nr bm bB bD r v cw:=s.Ws (r,v) h
def St.oE (s:St bm bB bD w cw rs ms) (h:(b,R)∈ms):ri bm bB bD (some R) (.map (some b)) cw:=⟨b,(s.DX (b,R) h).1⟩
def St.nA (S:St bm bB bD w cw rs ((b,R)::ms)) (s:gn) (ks:List gn) (r:Ru) (o:pO s=true) (d:words s=ks) (q:nr bm bB bD r v cw):
  Calls prog 92 #[.map (some b),gw s,v] cw λe w'=>e=ir (.map (some b))/\St bm bB bD w w' rs ((b,(ks,r)::R)::ms):=by
 have h:=S.DX (b,R) (tl ..);refine(Sk bm bB bD b s ks r R v cw o d S.t h.1 h.2.2 q).mono ?_;rintro e w' ⟨g,l,m,n⟩;exact⟨g,S.on m n l⟩
def St.made (S:St bm bB bD w cw rs ms) (C:Calls prog f args cw (zc bm bB bD r cw)) (h:r≠ .nil):
  Calls prog f args cw λe w'=>∃f a l,e=ir (.func f a l)/\St bm bB bD w w' ((r,.func f a l)::rs) ms:=by
 refine C.mono ?_;rintro e w' ⟨⟨x,rfl,d⟩,g⟩;obtain⟨f,a,l,rfl⟩:=d.func h;exact⟨f,a,l,rfl,S.call g d⟩
def St.UM (S:St bm bB bD w cw rs ms) (C:Calls prog f args cw λe w'=>(∃v,e=ir v/\Ask bm v p w')/\Kept [] cw w'):
  Calls prog f args cw λe w'=>∃f a l,e=ir (.func f a l)/\Ask bm (.func f a l) p w'/\St bm bB bD w w' rs ms:=by
 refine C.mono ?_;rintro e w' ⟨⟨x,rfl,d⟩,g⟩;obtain⟨f,a,l,rfl⟩:=d.func;exact⟨f,a,l,rfl,d,S.zI g⟩
theorem AQ (bm:Nat) (w:gr):Calls prog 118 #[] w λe w'=>(∃v,e=ir v/\Ask bm v (hH [fR]) w')/\Kept [] w w':=by
 have⟨W,hW,HK,g,z⟩:=sn w (gy #[gw fR] 9);have C:=MY bm w.heap.size 1 [fR] W g (by decide);have m:=fN hW;clear hW;go_enter func118,ntmps118;go_wp21;rw[<-m.out];refine C.mono ?_;rintro e w' ⟨⟨v,rfl,d⟩,n⟩;have o:=d;have h:=HK.trans n;have⟨f,a,l,hv⟩:=d.func;subst hv;go_wp2;go_ret;simp_all
theorem zn (bm:Nat) (w:gr):Calls prog 130 #[] w λe w'=>(∃v,e=ir v/\Ask bm v (hH [fW,fX,fY]) w')/\Kept [] w w':=by
 have⟨W,hW,HK,g,z⟩:=sn w (gy #[gw fW,gw fX,gw fY] 9);have C:=MY bm w.heap.size 3 [fW,fX,fY] W g (by decide);have m:=fN hW;clear hW;go_enter func130,ntmps130;go_wp21;rw[<-m.out];refine C.mono ?_;rintro e w' ⟨⟨v,rfl,d⟩,n⟩;have o:=d;have h:=HK.trans n;have⟨f,a,l,hv⟩:=d.func;subst hv;go_wp2;go_ret;simp_all
def np (d:Nat) (own:Bool):mB:={blank:= .pd 6,gJ:= .gJ d own,iH:= .nothing,ie:= .nothing,start:=some [([fP],(.pd 6))],iy:= .gZ 237}
def Qa (bm bB bD g h:Nat) (own:Bool) (w:gr) (d:h=if own then bB else bD):Calls prog 88 #[iq bB,.func (.func g) #[iq h] #[]] w (zc bm bB bD (.gJ g own) w):=by
 rw[d];exact oh bm bB bD g own w
def DB (bm bB bD l H:Nat) (own:Bool) (h:H=if own then bB else bD) (w:gr) (Y:BD bB bD w) (ht:yh w) (D:bm < w.heap.size):
  Calls prog 143 #[iq bB,.func (.func l) #[iq H] #[]] w (jF bm bB bD (np l own) w):=by
 have Z:=@run_makeMap prog;have n:=fN h;clear h;have⟨W0,hW0,HS0⟩:=St.start bm bB bD w ht D;have⟨wZ,hBl⟩:=Y;have y:=fN hW0;clear hW0;go_enter func143,ntmps143;go_wp21;rw[<-y.out];refine(HS0.made (pr bm bB bD 6 _) nofun).mono ?_;rintro e W1 ⟨U,J,l1,rfl,o⟩;go_wp21;refine(o.made (Qa bm bB bD l H own _ n) nofun).mono ?_;rintro e W2 ⟨V,N,l2,rfl,q⟩;have⟨W3,b1,hW3,hb1,HS3⟩:=q.map;have A:=fN hW3;have m:=fN hb1;clear hW3 hb1;go_wp21;rw[<-A.out,<-m.out];refine(HS3.made (pr bm bB bD 6 _) nofun).mono ?_;rintro e W4 ⟨f4,a4,l4,rfl,g⟩;go_wp21;refine(g.nA _ [fP] (.pd 6) (by rfl) (by rfl) (g.at (by simp))).mono ?_;rintro e W5 ⟨rfl,d⟩;have I:=jv (sp:=np l own) (v0:= .func U J l1) (v1:= .nilFunc) (v2:= .func V N l2) (v3:= .func (.func 87) #[] #[]) (v4:= .func (.func 87) #[] #[]) (v5:= .map (some b1)) (v6:= .map none) (v7:= .nilFunc) (v8:= .nilFunc) (v9:= .func (.func 237) #[iq bB] #[]) d.g d.k ⟨(d.at (r:= .pd 6) (by simp)),rfl,(d.at (r:= .gJ l own) (by simp)),rfl,rfl,(d.oE (by simp)),rfl,rfl,rfl,rfl⟩ _ rfl;have⟨q0,q1,q2,q3,q4,q5,q6,q7,q8,q9⟩:=kg d.g;have u:=gu d.g;go_wp2;exact km results143 rfl rfl I
def Fk {q : Nat} {own : Bool} (h:kG bm bB bD (np q own) v0 v1 v2 v3 v4 v5 v6 v7 v8 v9 w):∃l d n m g o b5,v0= .func l d n/\v1= .nilFunc/\v2= .func m g o/\v3= .func (.func 87) #[] #[]/\v4= .func (.func 87) #[] #[]/\v5= .map (some b5)/\v6= .map none/\v7= .nilFunc/\v8= .nilFunc/\v9= .func (.func 237) #[iq bB] #[]:=by
 have⟨l,d,n,e0⟩:=h.blank.func (by simp[np]);have⟨m,g,o,e2⟩:=h.gJ.func (by simp[np]);have⟨b5,L,e5,_⟩:=h.start;exact⟨l,d,n,m,g,o,b5,e0,h.jW,e2,h.iH,h.ie,e5,h.stop,h.jK,h.j9,h.iy⟩
def EA (bm bB bD:Nat) (w:gr) (l:BD bB bD w) (y:yh w) (h:bm < w.heap.size):
  Calls prog 76 #[iq bB] w (jF bm bB bD (np 89 false) w):=by
 have⟨W0,hW0,HS0⟩:=St.start bm bB bD w y h;have n:=l;have⟨wZ,hBl⟩:=l;have g:=fN hW0;clear hW0;go_enter func76,ntmps76;go_wp21;rw[<-g.out];refine(DB bm bB bD 89 bD false rfl _ (n.ib HS0.k) HS0.t (mf HS0.lt HS0.k.size)).mono ?_;rintro e A ⟨v0,v1,v2,v3,v4,v5,v6,v7,v8,v9,rfl,m,q⟩;obtain⟨I,D,N,J,H,U,b5,rfl,rfl,rfl,rfl,rfl,rfl,rfl,rfl,rfl,rfl⟩:=Fk m;have d:=HS0.zI q;have o:=jv d.g d.k m _ rfl;have⟨q0,q1,q2,q3,q4,q5,q6,q7,q8,q9⟩:=kg d.g;have u:=gu d.g;go_wp2;exact km results76 rfl rfl o
structure Cj (bm bB bD:Nat) (w cw:gr) (rs:List (Ru×gG)) (ms:List (Nat×List (List gn×Ru))):Prop where
 k:Kept [] w cw
 t:yh cw
 lt:bm < w.heap.size
 Ws:∀p∈rs,nr bm bB bD p.1 p.2 cw
 DX:∀p∈ms,IsMap bm bB bD p.1 p.2 (.map (some p.1)) cw/\w.heap.size<=p.1/\p.1≠bm
 nd:(ms.map (·.1)).Nodup
def Cj.start (bm bB bD:Nat) (w:gr) (g:yh w) (d:bm < w.heap.size):Cj bm bB bD w w [] []:=
 ⟨Kept.refl _ _,g,d,(λ_ h=>(by cases h)),(λ_ h=>(by cases h)),(by simp)⟩
def Cj.zI (s:Cj bm bB bD w cw rs ms) (g:Kept [] cw cw'):Cj bm bB bD w cw' rs ms:=
 have f:vE bm cw cw':= .gP g
 ⟨s.k.trans g,s.t.fr f,s.lt,λp d=>(s.Ws p d).fr f,λp d=>⟨(s.DX p d).1.fr f (g.block _ (s.DX p d).1.lt (by simp)),(s.DX p d).2⟩,s.nd⟩
def Cj.call (s:Cj bm bB bD w cw rs ms) (h:Kept [] cw cw') (l:nr bm bB bD r v cw'):Cj bm bB bD w cw' ((r,v)::rs) ms:=
 have d:=s.zI h
 ⟨d.k,d.t,d.lt,λp g=>by
  rcases List.mem_cons.1 g with rfl|g
  .exact l
  .exact d.Ws p g,d.DX,d.nd⟩
def Cj.map (s:Cj bm bB bD w cw rs ms):∃W b,W=cw.alloc (.map #[] 0)/\b=cw.heap.size/\Cj bm bB bD w W rs ((b,[])::ms):=by
 have h:Kept [] cw (cw.alloc (.map #[] 0)):=(Kept.refl _ _).alloc _;have g:=s.zI h;refine⟨_,_,rfl,rfl,g.k,g.t,g.lt,g.Ws,λp d=>?_,?_⟩
 .rcases List.mem_cons.1 d with rfl|d
  .exact⟨TN bm bB bD cw,s.k.size,by have:=s.k.size;have:=s.lt;omega⟩
  .exact g.DX p d
 .rw[y8,JH];refine⟨λl=>?_,s.nd⟩;have⟨p,d,e⟩:=List.mem_map.1 l;have:=(s.DX p d).1.lt;omega
theorem Cj.on {m : List (List gn×Ru)} (s:Cj bm bB bD w cw rs ((b,R)::ms)) (n:Kept [b] cw cw') (h:vE bm cw cw') (y:IsMap bm bB bD b m (.map (some b)) cw'):Cj bm bB bD w cw' rs ((b,m)::ms):=by
 have q:=s.DX (b,R) (by simp);have l:=s.nd;rw[y8,JH]at l;refine⟨s.k.next n (λx A=> .inr (by grind)),s.t.fr h,s.lt,λp d=>(s.Ws p d).fr h,λp d=>?_,s.nd⟩;rcases List.mem_cons.1 d with rfl|d
 .grind
 .have g:=s.DX p (pX _ d);refine⟨g.1.fr h (n.block _ g.1.lt λo=>?_),g.2⟩;grind
def Cj.at (s:Cj bm bB bD w cw rs ms) (h:(r,v)∈rs):nr bm bB bD r v cw:=s.Ws (r,v) h
def N8 (bm bB bD:Nat) (R:List (List gn×Ru)) (w:gr) (e:Ending) (w':gr):Prop:=∃b,e=ir (.map (some b))/\IsMap bm bB bD b R (.map (some b)) w'/\w.heap.size<=b/\b≠bm/\Kept [] w w'
def St.mapOf (s:St bm bB bD w cw rs ms) (n:Kept [] cw cw') (o:IsMap bm bB bD b R (.map (some b)) cw') (m:cw.heap.size<=b) (l:b≠bm):St bm bB bD w cw' rs ((b,R)::ms):=by
 have d:=s.zI n;refine⟨d.k,d.g,d.t,d.lt,d.Ws,λp h=>?_,?_⟩
 .rcases List.mem_cons.1 h with rfl|h
  .exact⟨o,jH s.k.size m,l⟩
  .exact d.DX p h
 .rw[y8,JH];refine⟨λg=>?_,s.nd⟩;have⟨p,h,e⟩:=List.mem_map.1 g;have:=(s.DX p h).1.lt;omega
def Cj.nA (S:Cj bm bB bD w cw rs ((b,R)::ms)) (s:gn) (ks:List gn) (r:Ru) (o:pO s=true) (d:words s=ks) (q:nr bm bB bD r v cw):
  Calls prog 92 #[.map (some b),gw s,v] cw λe w'=>e=ir (.map (some b))/\Cj bm bB bD w w' rs ((b,(ks,r)::R)::ms):=by
 have h:=S.DX (b,R) (tl ..);refine(Sk bm bB bD b s ks r R v cw o d S.t h.1 h.2.2 q).mono ?_;rintro e w' ⟨g,l,m,n⟩;exact⟨g,S.on m n l⟩
def Cj.made (S:Cj bm bB bD w cw rs ms) (C:Calls prog f args cw (zc bm bB bD r cw)) (h:r≠ .nil):
  Calls prog f args cw λe w'=>∃f a l,e=ir (.func f a l)/\Cj bm bB bD w w' ((r,.func f a l)::rs) ms:=by
 refine C.mono ?_;rintro e w' ⟨⟨x,rfl,d⟩,g⟩;obtain⟨f,a,l,rfl⟩:=d.func h;exact⟨f,a,l,rfl,S.call g d⟩
def lY:List (List gn×Ru):=[([gO],(.gZ 208)),([sY,F9,Ay,iB],(.gZ 207)),([iG],(.gZ 206)),([jN],(.gZ 205)),([mX],(.gZ 204)),([kF],(.gZ 203)),([mg,mh],(.gZ 202)),([jI,oj,qy,mL,gS,lz,lA],(.gZ 201)),([fP],(.gZ 200)),([gp],(.gZ 199))]
def Gi (bm bB bD:Nat) (w:gr) (Y:yh w) (J:bm < w.heap.size):
  Calls prog 113 #[iq bB] w (N8 bm bB bD lY w):=by
 have V:=@run_makeMap prog;have l:=Cj.start bm bB bD w Y J;go_enter func113,ntmps113;have⟨W1,b1,hW1,hb1,HS1⟩:=l.map;have I:=fN hW1;have h:=fN hb1;clear hW1 hb1;go_wp21;rw[<-I.out,<-h.out];refine(HS1.nA _ [gp] (.gZ 199) (by rfl) (by rfl) rfl).mono ?_;rintro e Z ⟨rfl,m⟩;go_wp21;refine(m.nA _ [fP] (.gZ 200) (by rfl) (by rfl) rfl).mono ?_;rintro e W3 ⟨rfl,n⟩;go_wp21;refine(n.nA _ [jI,oj,qy,mL,gS,lz,lA] (.gZ 201) (by rfl) (by rfl) rfl).mono ?_;rintro e W4 ⟨rfl,o⟩;go_wp21;refine(o.nA _ [mg,mh] (.gZ 202) (by rfl) (by rfl) rfl).mono ?_;rintro e W5 ⟨rfl,q⟩;go_wp21;refine(q.nA _ [kF] (.gZ 203) (by rfl) (by rfl) rfl).mono ?_;rintro e W6 ⟨rfl,y⟩;go_wp21;refine(y.nA _ [mX] (.gZ 204) (by rfl) (by rfl) rfl).mono ?_;rintro e W7 ⟨rfl,A⟩;go_wp21;refine(A.nA _ [jN] (.gZ 205) (by rfl) (by rfl) rfl).mono ?_;rintro e W8 ⟨rfl,D⟩;go_wp21;refine(D.nA _ [iG] (.gZ 206) (by rfl) (by rfl) rfl).mono ?_;rintro e W9 ⟨rfl,H⟩;go_wp21;refine(H.nA _ [sY,F9,Ay,iB] (.gZ 207) (by rfl) (by rfl) rfl).mono ?_;rintro e N ⟨rfl,g⟩;go_wp21;refine(g.nA _ [gO] (.gZ 208) (by rfl) (by rfl) rfl).mono ?_;rintro e U ⟨rfl,d⟩;go_wp2;go_ret;exact⟨b1,rfl,(d.DX (b1,[([gO],(.gZ 208)),([sY,F9,Ay,iB],(.gZ 207)),([iG],(.gZ 206)),([jN],(.gZ 205)),([mX],(.gZ 204)),([kF],(.gZ 203)),([mg,mh],(.gZ 202)),([jI,oj,qy,mL,gS,lz,lA],(.gZ 201)),([fP],(.gZ 200)),([gp],(.gZ 199))]) (by simp)).1,(d.DX (b1,[([gO],(.gZ 208)),([sY,F9,Ay,iB],(.gZ 207)),([iG],(.gZ 206)),([jN],(.gZ 205)),([mX],(.gZ 204)),([kF],(.gZ 203)),([mg,mh],(.gZ 202)),([jI,oj,qy,mL,gS,lz,lA],(.gZ 201)),([fP],(.gZ 200)),([gp],(.gZ 199))]) (by simp)).2.1,(d.DX (b1,[([gO],(.gZ 208)),([sY,F9,Ay,iB],(.gZ 207)),([iG],(.gZ 206)),([jN],(.gZ 205)),([mX],(.gZ 204)),([kF],(.gZ 203)),([mg,mh],(.gZ 202)),([jI,oj,qy,mL,gS,lz,lA],(.gZ 201)),([fP],(.gZ 200)),([gp],(.gZ 199))]) (by simp)).2.2,d.k⟩
def vj:mB:={np 144 true with stop:=some [([fP],.gZ 145)]}
theorem PR (bm bB bD:Nat) (w:gr) (hb:BD bB bD w) (ht:yh w) (D:bm < w.heap.size):
  Calls prog 75 #[iq bB] w (jF bm bB bD vj w):=by
 have a5:=@run_makeMap prog;have⟨W0,hW0,HS0⟩:=St.start bm bB bD w ht D;have HB:=hb;have N:=fN hW0;clear hW0 ht D hb;go_enter func75,ntmps75;go_wp21;rw[<-N.out];refine(DB bm bB bD 144 bB true rfl _ (HB.ib HS0.k) HS0.t (mf HS0.lt HS0.k.size)).mono ?_;rintro e g ⟨v0,v1,v2,v3,v4,v5,v6,v7,v8,v9,rfl,hr,hk⟩;obtain⟨f0,Z,l0,f2,a2,l2,b5,rfl,rfl,rfl,rfl,rfl,rfl,rfl,rfl,rfl,rfl⟩:=Fk hr;have A:=HS0.zI hk;have y:=fN hr;clear hr hk;have⟨W2,hW2,K2,g2,z2⟩:=sn g (gy #[.func f0 Z l0,.nilFunc,.func f2 a2 l2,.func (.func 87) #[] #[],.func (.func 87) #[] #[],.map (some b5),.map none,.nilFunc,.nilFunc,.func (.func 237) #[iq bB] #[]] 168);have S2:=A.zI K2;have⟨W3,b1,hW3,hb1,HS3⟩:=S2.map;have Y:Kept [] W2 W3:=by rw[hW3];exact(Kept.refl _ _).alloc _
 have H:=fN (show g.heap.size+1=b1 by omega);have I:=Y.at g2 (by simp);have h:=y.ib (K2.trans Y);have a1:=(show g.heap.size < b1 by omega);have a3:=(show b5 < b1 by
  have⟨b5',hm5⟩:=y.start;have e:b5=b5':=by have⟨L,e,_⟩:=hm5;simpa using e
  have:=hm5.lt;omega)
 have U:=fN hW2;have V:=fN hW3;clear hW2 K2 g2 z2 S2 hW3 hb1 Y;go_wp21;rw[<-U.out,<-V.out,H.out];refine(Sk bm bB bD b1 _ [fP] (.gZ 145) [] _ _ (by rfl) (by rfl) HS3.t (HS3.DX (b1,[]) (by simp)).1 (HS3.DX (b1,[]) (by simp)).2.2 rfl).mono ?_;rintro e l ⟨rfl,q,o,d⟩;have n:=HS3.on o d q;have m:=o.at I (by grind);have J:Hid (kG bm bB bD vj (.func f0 Z l0) .nilFunc (.func f2 a2 l2) (.func (.func 87) #[] #[]) (.func (.func 87) #[] #[]) (.map (some b5)) (.map (some b1)) .nilFunc .nilFunc (.func (.func 237) #[iq bB] #[]) l):=by
  refine fN ⟨h.blank.fr d,h.jW.fr d,h.gJ.fr d,h.iH.fr d,h.ie.fr d,?_,⟨b1,q⟩,h.jK.fr d,h.j9.fr d,h.iy.fr d⟩;have⟨b5',hm5⟩:=h.start;have e:b5=b5':=by have⟨L,e,_⟩:=hm5;simpa using e
  subst e;exact⟨b5,hm5.fr d (o.block b5 hm5.lt (by grind))⟩
 have a4:w.heap.size < g.heap.size:=je A.g;have HF:=jv (w1:=l.setCell ⟨g.heap.size,6,none⟩ (.map (some b1))) ((Below.heap_setCell l ⟨g.heap.size,6,none⟩ _ w.heap.size (by grind)).trans n.g) (n.k.setCell (p:=⟨g.heap.size,6,none⟩) (.inr (by grind)) _) (J.Ip ((Kept.refl [g.heap.size] l).setCell (p:=⟨g.heap.size,6,none⟩) (.inl (by simp)) _) m) _ rfl;have a6:w.heap.size≠g.heap.size:=by omega
 clear q o d;have c0:l.cell? ⟨g.heap.size,0,none⟩=some (.func f0 Z l0):=(fO m 0).trans rfl;have c1:l.cell? ⟨g.heap.size,1,none⟩=some .nilFunc:=(fO m 1).trans rfl;have c2:l.cell? ⟨g.heap.size,2,none⟩=some (.func f2 a2 l2):=(fO m 2).trans rfl;have c3:l.cell? ⟨g.heap.size,3,none⟩=some (.func (.func 87) #[] #[]):=(fO m 3).trans rfl;have c4:l.cell? ⟨g.heap.size,4,none⟩=some (.func (.func 87) #[] #[]):=(fO m 4).trans rfl;have c5:l.cell? ⟨g.heap.size,5,none⟩=some (.map (some b5)):=(fO m 5).trans rfl;have c6:l.cell? ⟨g.heap.size,6,none⟩=some (.map none):=(fO m 6).trans rfl;have c7:l.cell? ⟨g.heap.size,7,none⟩=some .nilFunc:=(fO m 7).trans rfl;have c8:l.cell? ⟨g.heap.size,8,none⟩=some .nilFunc:=(fO m 8).trans rfl;have c9:l.cell? ⟨g.heap.size,9,none⟩=some (.func (.func 237) #[iq bB] #[]):=(fO m 9).trans rfl;have d6:=gu m 6;clear m;have⟨q0,q1,q2,q3,q4,q5,q6,q7,q8,q9⟩:=kg n.g;have u:=gu n.g;go_wp2;exact km results75 rfl rfl HF
def wy (bm:Nat) (v:gG) (p:gn->Bool) (X:Nat->Prop) (w:gr):Prop:=∃E,nK E v p w/\∀e∈E,xv bm w e/\¬X e
theorem wy.ask (h:wy bm v p X w):Ask bm v p w:=by
 have⟨E,hA,hE⟩:=h;grind[Ask]
def wy.kept (h:wy bm v p X w) (g:Kept [] w w'):wy bm v p X w':=by
 have⟨E,hA,hE⟩:=h;exact⟨E,hA.ib g,λe d=>⟨(hE e d).1.fr (.gP g),(hE e d).2⟩⟩
def wy.other {g : Nat->Prop} (h:wy bm v p X w) (l:∀e,e < w.heap.size->g e->X e):wy bm v p g w:=by
 have⟨E,hA,hE⟩:=h;exact⟨E,hA,λe d=>⟨(hE e d).1,λm=>(hE e d).2 (l e (hA.lt e d) m)⟩⟩
def wy.of (h:Ask bm v p w) (g:∀e,e < w.heap.size->¬X e):wy bm v p X w:=by
 have⟨E,hA,hE⟩:=h;exact⟨E,hA,λe d=>⟨hE e d,g e (hA.lt e d)⟩⟩
theorem wy.set {bm k:Nat} {v:gG} {p:gn->Bool} {X:Nat->Prop} {w:gr} (h:wy bm v p X w) (l:X k) (u:gG):wy bm v p X (w.setCell ⟨k,0,none⟩ u):=by
 have⟨E,hA,hE⟩:=h;have g:∀e∈E,(w.setCell ⟨k,0,none⟩ u).heap[e]?=w.heap[e]?:=λe d=>Below.heap_setCell w ⟨k,0,none⟩ u e (λq=>(hE e d).2 (by grind));refine⟨E,hA.keeps g (by simp),λe d=>⟨?_,(hE e d).2⟩⟩;grind[xv]
theorem TH (bm g cap:Nat) (d:List gn) (X:Nat->Prop) (w:gr) (y:w.heap[g]?=some (gy (d.map Value.string).toArray 9)) (h:d.length<=4096) (A:∀e,X e->e < w.heap.size/\e≠g):
  Calls prog 215 #[nI g d.length cap] w λe w'=>(∃v,e=ir v/\wy bm v (hH d) X w')/\Kept [] w w':=by
 refine(abS g cap d.length w).mono ?_;rintro e w' ⟨rfl,rfl⟩;have q:Kept [] w (w.alloc (gy #[nI g d.length cap] 200)):=(Kept.refl _ _).alloc _;have l:=fQ w (gy #[nI g d.length cap] 200);have m:=q.at y (by simp);refine⟨⟨_,rfl,_,XZ _ g cap d _ l m h,λe n=>?_⟩,q⟩;simp at n;rcases n with rfl|rfl
 .exact⟨.inr ⟨_,_,l,by decide⟩,λo=>by grind⟩
 .exact⟨.inr ⟨_,_,m,by decide⟩,λo=>(A _ o).2 rfl⟩
theorem Xa (bm:Nat) (v1 v2:gG) (p q:gn->Bool) (X:Nat->Prop) (w:gr) (n:wy bm v1 p X w) (o:wy bm v2 q X w) (y:∀e,X e->e < w.heap.size):
  Calls prog 270 #[v1,v2] w λe w'=>(∃v,e=ir v/\wy bm v (λs=>p s&&!q s) X w')/\Kept [] w w':=by
 have⟨E1,a1,c1⟩:=n;have⟨E2,a2,c2⟩:=o;refine(Xb E1 E2 v1 v2 p q w a1 a2).mono ?_;rintro e w' ⟨⟨v,rfl,m,h,l⟩,g⟩;refine⟨⟨v,rfl,_,m,λe d=>⟨Lx (.inr ⟨_,_,h,by decide⟩) (.inr ⟨_,_,l,by decide⟩) (λe d=>(c1 e d).1.fr (.gP g)) (λe d=>(c2 e d).1.fr (.gP g)) e d,λA=>?_⟩⟩,g⟩;grind
def XX (s5 s6:gG) (e:Nat):Prop:=iq e=s5\/iq e=s6
abbrev ZZ:List gn:=[jI,mX]
abbrev adi:gn->Bool:=λs=>kQ s&&!hH ZZ s
structure N6 (bm bB:Nat) (ks:List gn) (sl u:gG) (w1:gr) (b0 b1 b2 b3 b4 b5 b6 b7 b8 b9 b10 b11 b12:Bool) (s5 s6 s7 s8 s9 s10 s11 s12 s13 s14 s15:gG) (w:gr):Prop where
 k:Kept [] w1 w
 f0:b0=true->s7=sl
 f1:b1=true->wy bm s8 (hH ks) (XX s5 s6) w
 f2:b2=true->s9=iq bB
 f3:b3=true->s10=iq bB
 f4:b4=true->s11=lK bB 184
 f5:b5=true->s12=u
 f6:b6=true->∃g,s13=nI g 2 2/\w.heap[g]?=some (gy #[gw jI,gw mX] 9)
 f7:b7=true->wy bm s14 (hH ZZ) (XX s5 s6) w
 f8:b8=true->wy bm s15 adi (XX s5 s6) w
 f9:if b9 then ∃k,s5=iq k/\w1.heap.size<=k/\box w k (if b11 then s8 else .nilFunc) 85 else s5=undef
 f10:if b10 then ∃k,s6=iq k/\w1.heap.size<=k/\box w k (if b12 then s15 else .nilFunc) 85 else s6=undef
 ne:b9=true->b10=true->s5≠s6
 d11:b11=true->b1=true/\b9=true
 d12:b12=true->b8=true/\b10=true
section
variable {bm bB:Nat} {ks:List gn} {sl u:gG} {w1:gr} {b0 b1 b2 b3 b4 b5 b6 b7 b8 b9 b10 b11 b12:Bool} {s5 s6 s7 s8 s9 s10 s11 s12 s13 s14 s15:gG} {w w':gr}
theorem XX.lt (h:N6 bm bB ks sl u w1 b0 b1 b2 b3 b4 b5 b6 b7 b8 b9 b10 b11 b12 s5 s6 s7 s8 s9 s10 s11 s12 s13 s14 s15 w) {e:Nat} (d:XX s5 s6 e):w1.heap.size<=e/\∃v,box w e v 85:=by
 rcases d with d|d
 .have:=h.f9;cases b9 with
  |false=>rw[this]at d;simp[undef]at d
  |true=>grind
 .have:=h.f10;cases b10 with
  |false=>rw[this]at d;simp[undef]at d
  |true=>grind
theorem N6.go (h:N6 bm bB ks sl u w1 b0 b1 b2 b3 b4 b5 b6 b7 b8 b9 b10 b11 b12 s5 s6 s7 s8 s9 s10 s11 s12 s13 s14 s15 w) (d:Kept [] w w'):N6 bm bB ks sl u w1 b0 b1 b2 b3 b4 b5 b6 b7 b8 b9 b10 b11 b12 s5 s6 s7 s8 s9 s10 s11 s12 s13 s14 s15 w':=by
 refine⟨h.k.trans d,h.f0,λq=>(h.f1 q).kept d,h.f2,h.f3,h.f4,h.f5,λq=>?_,λq=>(h.f7 q).kept d,λq=>(h.f8 q).kept d,?_,?_,h.ne,h.d11,h.d12⟩
 .have⟨g,e,hg⟩:=h.f6 q;exact⟨g,e,d.at hg (by simp)⟩
 .have:=h.f9;cases b9 with
  |false=>grind
  |true=>have⟨k,e,h1,h2⟩:=this;exact⟨k,e,h1,d.at h2 (by simp)⟩
 .have:=h.f10;cases b10 with
  |false=>grind
  |true=>have⟨k,e,h1,h2⟩:=this;exact⟨k,e,h1,d.at h2 (by simp)⟩
end
theorem aa1 (bm bB bD g cap:Nat) (ks:List gn) (u:gG) (w:gr) (hB:bB < w.heap.size) (hu:w.cell? ⟨bB,184,none⟩=some u) (hA:Ask bm u kQ w) (h2:w.heap[g]?=some (gy (ks.map Value.string).toArray 9)) (ae:ks.length<=4096):
  Calls prog 188 #[iq bB,nI g ks.length cap] w (zc bm bB bD (.item ks) w):=by
 obtain⟨uf,ua,ul,rfl⟩:=hA.func;have⟨w1,hw1,HK,HG,HZ⟩:=sn w (gy #[iq bB] 117);have HU:=hu;have HB:=hB;have a4:=fN hA;have H2:=h2;have a6:=ae;have HW:=fN hw1;clear hA hw1;go_enter func188,ntmps188;go_wp21;refine uU (by rfl) ?_;change wpAny _ _ _ _ _ _ _ (World.drew _);rw[<-HW.out];refine ER (I:=λm a W=>∃b0 b1 b2 b3 b4 b5 b6 b7 b8 b9 b10 b11 b12 s5 s6 s7 s8 s9 s10 s11 s12 s13 s14 s15,m=#[b0,b1,b2,b3,b4,b5,b6,b7,b8,b9,b10,b11,b12]/\a=⟨#[iq bB,nI g ks.length cap,gF w.heap.size,undef,.nilFunc,s5,s6,s7,s8,s9,s10,s11,s12,s13,s14,s15,undef],[]⟩/\N6 bm bB ks (nI g ks.length cap) (.func uf ua ul) w1 b0 b1 b2 b3 b4 b5 b6 b7 b8 b9 b10 b11 b12 s5 s6 s7 s8 s9 s10 s11 s12 s13 s14 s15 W) ?_ ?_ _ _ _ _ ?_ ?_
 .rintro m a W i ⟨b0,b1,b2,b3,b4,b5,b6,b7,b8,b9,b10,b11,b12,s5,s6,s7,s8,s9,s10,s11,s12,s13,s14,s15,rfl,rfl,d⟩ hi;simp only[Region.ready,QS,QU]at hi;have⟨a0,hc⟩:=hi;have a0:i < 13:=a0;obtain rfl|rfl|rfl|rfl|rfl|rfl|rfl|rfl|rfl|rfl|rfl|rfl|rfl:i=0\/i=1\/i=2\/i=3\/i=4\/i=5\/i=6\/i=7\/i=8\/i=9\/i=10\/i=11\/i=12:=by omega
  all_goals simp[Region.binds]at hc
  .refine mK rfl ?_;intro A h;go_simp;refine h _ _ ?_
   iterate 24 apply Exists.intro
   refine⟨rfl,rfl,?_⟩;exact⟨d.k,λ_=>rfl,d.f1,d.f2,d.f3,d.f4,d.f5,d.f6,d.f7,d.f8,d.f9,d.f10,d.ne,d.d11,d.d12⟩
  .refine mK rfl ?_;intro A h;have e7:=d.f0 hc.2;subst e7;have Y:b11=false:=by
    cases b11 with
    |false=>rfl
    |true=>have:=(d.d11 rfl).1;simp[hc.1]at this
   subst Y;have C:=(TH bm g cap ks (XX s5 s6) W ((HK.trans d.k).at H2 (by simp)) a6 (λe l=>by
    have⟨h1,v,h3⟩:=XX.lt d l;grind))
   go_simp;refine C.mono ?_;rintro e w' ⟨⟨v,rfl,D⟩,n⟩;have J:=d.go n;refine h _ _ ?_
   iterate 24 apply Exists.intro
   refine⟨rfl,rfl,?_⟩;exact⟨J.k,J.f0,λ_=>D,J.f2,J.f3,J.f4,J.f5,J.f6,J.f7,J.f8,J.f9,J.f10,J.ne,(λq=>by simp at q),J.d12⟩
  .refine mK rfl ?_;intro A h;have c0:W.cell? ⟨w.heap.size,0,none⟩=some (iq bB):=(fO (d.k.at HG (by simp)) 0).trans rfl;go_simp;refine h _ _ ?_
   iterate 24 apply Exists.intro
   refine⟨rfl,rfl,?_⟩;exact⟨d.k,d.f0,d.f1,λ_=>rfl,d.f3,d.f4,d.f5,d.f6,d.f7,d.f8,d.f9,d.f10,d.ne,d.d11,d.d12⟩
  .refine mK rfl ?_;intro A h;have e9:=d.f2 hc.2;subst e9;go_simp;refine h _ _ ?_
   iterate 24 apply Exists.intro
   refine⟨rfl,rfl,?_⟩;exact⟨d.k,d.f0,d.f1,d.f2,λ_=>rfl,d.f4,d.f5,d.f6,d.f7,d.f8,d.f9,d.f10,d.ne,d.d11,d.d12⟩
  .refine mK rfl ?_;intro A h;have a7:=d.f3 hc.2;subst a7;go_simp;refine h _ _ ?_
   iterate 24 apply Exists.intro
   refine⟨rfl,rfl,?_⟩;exact⟨d.k,d.f0,d.f1,d.f2,d.f3,λ_=>rfl,d.f5,d.f6,d.f7,d.f8,d.f9,d.f10,d.ne,d.d11,d.d12⟩
  .refine mK rfl ?_;intro A h;have a8:=d.f4 hc.2;subst a8;have c0:W.cell? ⟨bB,184,none⟩=some (.func uf ua ul):=((HK.trans d.k).cell (p:=⟨bB,184,none⟩) HB (by simp)).trans HU;go_simp;refine h _ _ ?_
   iterate 24 apply Exists.intro
   refine⟨rfl,rfl,?_⟩;exact⟨d.k,d.f0,d.f1,d.f2,d.f3,d.f4,λ_=>rfl,d.f6,d.f7,d.f8,d.f9,d.f10,d.ne,d.d11,d.d12⟩
  .refine mK rfl ?_;intro A h;go_simp;have n:Kept [] W (W.alloc (gy #[gw jI,gw mX] 9)):=(Kept.refl _ _).alloc _;have J:=d.go n;refine h _ _ ?_
   iterate 24 apply Exists.intro
   refine⟨rfl,rfl,?_⟩;exact⟨J.k,J.f0,J.f1,J.f2,J.f3,J.f4,J.f5,λ_=>⟨_,rfl,fQ W _⟩,J.f7,J.f8,J.f9,J.f10,J.ne,J.d11,J.d12⟩
  .refine mK rfl ?_;intro A h;have⟨g3,e13,h13⟩:=d.f6 (by simp[hc]);subst e13;have C:=(TH bm g3 2 ZZ (XX s5 s6) W h13 (by decide) (λe l=>by
    have⟨h1,v,h3⟩:=XX.lt d l;grind))
   go_simp;refine C.mono ?_;rintro e w' ⟨⟨v,rfl,D⟩,n⟩;have J:=d.go n;refine h _ _ ?_
   iterate 24 apply Exists.intro
   refine⟨rfl,rfl,?_⟩;exact⟨J.k,J.f0,J.f1,J.f2,J.f3,J.f4,J.f5,J.f6,λ_=>D,J.f8,J.f9,J.f10,J.ne,J.d11,J.d12⟩
  .refine mK rfl ?_;intro A h;have a9:=d.f5 (by simp[hc]);subst a9;have ab:=d.f7 (by simp[hc]);have Z:b12=false:=by
    cases b12 with
    |false=>rfl
    |true=>have:=(d.d12 rfl).1;simp[hc.1]at this
   subst Z;have ad:wy bm (.func uf ua ul) kQ (XX s5 s6) W:=(wy.of (a4.fr (.gP HK)) (λe he l=>by have:=(XX.lt d l).1;omega)).kept d.k;have C:=(Xa bm (.func uf ua ul) s14 kQ (hH ZZ) (XX s5 s6) W ad ab (λe l=>by
    have⟨h1,v,h3⟩:=XX.lt d l;exact je h3))
   go_simp;refine C.mono ?_;rintro e w' ⟨⟨v,rfl,D⟩,n⟩;have J:=d.go n;refine h _ _ ?_
   iterate 24 apply Exists.intro
   refine⟨rfl,rfl,?_⟩;exact⟨J.k,J.f0,J.f1,J.f2,J.f3,J.f4,J.f5,J.f6,J.f7,λ_=>D,J.f9,J.f10,J.ne,J.d11,(λq=>by simp at q)⟩
  .refine mK rfl ?_;intro A h;have o:b11=false:=by
    cases b11 with
    |false=>rfl
    |true=>have:=(d.d11 rfl).2;simp[hc]at this
   subst o;have N:b9=false:=by simpa using hc
   subst N;have V:s5=undef:=d.f9;subst V;go_simp;have n:Kept [] W (W.alloc (gy #[.nilFunc] 85)):=(Kept.refl _ _).alloc _;have J:=d.go n;have H:∀e,e < W.heap.size->XX (iq W.heap.size) s6 e->XX undef s6 e:=λe he l=>by
    rcases l with l|l
    .simp at l<;>omega
    .exact .inr l
   refine h _ _ ?_
   iterate 24 apply Exists.intro
   refine⟨rfl,rfl,?_⟩;exact⟨J.k,J.f0,(λq=>((d.f1 q).other H).kept n),J.f2,J.f3,J.f4,J.f5,J.f6,(λq=>((d.f7 q).other H).kept n),(λq=>((d.f8 q).other H).kept n),⟨_,rfl,d.k.size,fQ W _⟩,J.f10,(λ_ q=>by subst q;have⟨k,e1,h1,h3⟩:=d.f10;grind),(λq=>by simp at q),J.d12⟩
  .refine mK rfl ?_;intro A h;have o:b12=false:=by
    cases b12 with
    |false=>rfl
    |true=>have:=(d.d12 rfl).2;simp[hc]at this
   subst o;have N:b10=false:=by simpa using hc
   subst N;have V:s6=undef:=d.f10;subst V;go_simp;have n:Kept [] W (W.alloc (gy #[.nilFunc] 85)):=(Kept.refl _ _).alloc _;have J:=d.go n;have H:∀e,e < W.heap.size->XX s5 (iq W.heap.size) e->XX s5 undef e:=λe he l=>by
    rcases l with l|l
    .exact .inl l
    grind
   refine h _ _ ?_
   iterate 24 apply Exists.intro
   refine⟨rfl,rfl,?_⟩;exact⟨J.k,J.f0,(λq=>((d.f1 q).other H).kept n),J.f2,J.f3,J.f4,J.f5,J.f6,(λq=>((d.f7 q).other H).kept n),(λq=>((d.f8 q).other H).kept n),J.f9,⟨_,rfl,d.k.size,fQ W _⟩,(λq _=>by subst q;have⟨k,e1,h1,h3⟩:=d.f9;grind),J.d11,(λq=>by simp at q)⟩
  .refine mK rfl ?_;intro A h;have o:b11=false:=by simp[hc]
   subst o;have N:b9=true:=by simp[hc]
   have U:b1=true:=by simp[hc]
   subst N U;have⟨k,V,h1,h3⟩:=d.f9;subst V;have⟨f,aa,ll,D⟩:=(d.f1 rfl).ask.func;subst D;have c0:W.cell? ⟨k,0,none⟩=some .nilFunc:=(fO h3 0).trans rfl;have c1:=gu h3 0;go_simp;have l:XX (iq k) s6 k:= .inl rfl;refine h _ _ ?_
   iterate 24 apply Exists.intro
   refine⟨rfl,rfl,?_⟩;refine⟨d.k.setCell (p:=⟨k,0,none⟩) (.inr h1) _,d.f0,(λq=>(d.f1 q).set l _),d.f2,d.f3,d.f4,d.f5,λq=>?_,(λq=>(d.f7 q).set l _),(λq=>(d.f8 q).set l _),⟨k,rfl,h1,(fV h3 0 _).trans rfl⟩,?_,d.ne,(λ_=>⟨rfl,rfl⟩),d.d12⟩
   .have⟨g3,e13,h13⟩:=d.f6 q;exact⟨g3,e13,(Below.heap_setCell W ⟨k,0,none⟩ _ g3 (xz h13 h3 (by decide))).trans h13⟩
   .have:=d.f10;split at this
    .rename_i hq;have⟨k2,e2,h4,h5⟩:=this;rw[gN hq];refine⟨k2,e2,h4,(Below.heap_setCell W ⟨k,0,none⟩ _ k2 (λq=>?_)).trans h5⟩;subst q;exact d.ne rfl hq e2.symm
    grind
  .refine mK rfl ?_;intro A h;have o:b12=false:=by simp[hc]
   subst o;have N:b10=true:=by simp[hc]
   have U:b8=true:=by simp[hc]
   subst N U;have⟨k,V,h1,h3⟩:=d.f10;subst V;have⟨f,aa,ll,D⟩:=(d.f8 rfl).ask.func;subst D;have c0:W.cell? ⟨k,0,none⟩=some .nilFunc:=(fO h3 0).trans rfl;have c1:=gu h3 0;go_simp;have l:XX s5 (iq k) k:= .inr rfl;refine h _ _ ?_
   iterate 24 apply Exists.intro
   refine⟨rfl,rfl,?_⟩;refine⟨d.k.setCell (p:=⟨k,0,none⟩) (.inr h1) _,d.f0,(λq=>(d.f1 q).set l _),d.f2,d.f3,d.f4,d.f5,λq=>?_,(λq=>(d.f7 q).set l _),(λq=>(d.f8 q).set l _),?_,⟨k,rfl,h1,(fV h3 0 _).trans rfl⟩,d.ne,d.d11,(λ_=>⟨rfl,rfl⟩)⟩
   .have⟨g3,e13,h13⟩:=d.f6 q;exact⟨g3,e13,(Below.heap_setCell W ⟨k,0,none⟩ _ g3 (xz h13 h3 (by decide))).trans h13⟩
   .have:=d.f9;split at this
    .rename_i hq;have⟨k2,e2,h4,h5⟩:=this;rw[gN hq];refine⟨k2,e2,h4,(Below.heap_setCell W ⟨k,0,none⟩ _ k2 (λq=>?_)).trans h5⟩;subst q;exact d.ne hq rfl e2
    grind
 .rintro m a W ⟨b0,b1,b2,b3,b4,b5,b6,b7,b8,b9,b10,b11,b12,s5,s6,s7,s8,s9,s10,s11,s12,s13,s14,s15,rfl,rfl,d⟩ y;simp only[Region.ready,Zj,QU]at y;have q0:=y 0 (by decide);simp[Region.binds]at q0;subst q0;have q1:=y 1 (by decide);simp[Region.binds]at q1;subst q1;have q2:=y 2 (by decide);simp[Region.binds]at q2;subst q2;have q3:=y 3 (by decide);simp[Region.binds]at q3;subst q3;have q4:=y 4 (by decide);simp[Region.binds]at q4;subst q4;have q5:=y 5 (by decide);simp[Region.binds]at q5;subst q5;have q6:=y 6 (by decide);simp[Region.binds]at q6;subst q6;have q7:=y 7 (by decide);simp[Region.binds]at q7;subst q7;have q8:=y 8 (by decide);simp[Region.binds]at q8;subst q8;have q9:=y 9 (by decide);simp[Region.binds]at q9;subst q9;have a1:=y 10 (by decide);simp[Region.binds]at a1;subst a1;have a2:=y 11 (by decide);simp[Region.binds]at a2;subst a2;have a3:=y 12 (by decide);simp[Region.binds]at a3;subst a3;have⟨k5,e5,h5,X5⟩:=d.f9;have⟨k6,e6,h6,X6⟩:=d.f10;subst e5 e6;have A1:=(d.f1 rfl).ask;have A2:=(d.f8 rfl).ask;have a5:=HK.trans d.k;have G2:=d.k.at HG (by simp);rename_i KK ac;refine ac _ _ ?_;go_wp2;go_ret;exact⟨⟨_,rfl,_,_,_,_,_,rfl,G2,X5,A1,X6,A2⟩,a5⟩
 .decide
 .exact⟨false,false,false,false,false,false,false,false,false,false,false,false,false,undef,undef,undef,undef,undef,undef,undef,undef,undef,undef,undef,rfl,rfl,(Kept.refl _ _).drew,by simp,by simp,by simp,by simp,by simp,by simp,by simp,by simp,by simp,rfl,rfl,by simp,by simp,by simp⟩
def BS (bm bB:Nat) (w:gr):Prop:=bB < w.heap.size/\∃u,w.cell? ⟨bB,184,none⟩=some u/\Ask bm u kQ w
def BS.ib (h:BS bm bB w) (d:Kept [] w w'):BS bm bB w':=by
 have⟨h1,u,hu,hA⟩:=h;exact⟨mf h1 d.size,u,(d.cell (p:=⟨bB,184,none⟩) h1 (by simp)).trans hu,hA.fr (.gP d)⟩
def Cj.top (s:Cj bm bB bD w cw rs ((b,R)::ms)):IsMap bm bB bD b R (.map (some b)) cw/\w.heap.size<=b/\b≠bm:=s.DX (b,R) (by simp)
def Cj.slice (s:Cj bm bB bD w cw rs ms) (h:List gn) (d:jE) (l:(h.map Value.string).toArray=d):∃W g,W=cw.alloc (gy d 9)/\g=cw.heap.size/\W.heap[g]?=some (gy (h.map Value.string).toArray 9)/\Cj bm bB bD w W rs ms:=
 ⟨_,_,rfl,rfl,by rw[l];exact fQ cw _,s.zI ((Kept.refl _ _).alloc _)⟩
def Qb (s:Cj bm bB bD w cw rs ms) (d:BS bm bB w) (g cap:Nat) (ks:List gn) (l:cw.heap[g]?=some (gy (ks.map Value.string).toArray 9)) (h:ks.length<=4096):
  Calls prog 188 #[iq bB,nI g ks.length cap] cw (zc bm bB bD (.item ks) cw):=by
 have⟨h1,u,hu,hA⟩:=d.ib s.k;exact aa1 bm bB bD g cap ks u cw h1 hu hA l h
def lZ:List (List gn×Ru):=[([gO],(.gZ 198)),([iB],(.gZ 197)),([F9,Ay],(.gZ 196)),([sY],(.gZ 195)),([jN,sX,jw],(.gZ 194)),([iS],(.gZ 193)),([gE,fU],(.gZ 192)),([jx],(.gZ 191)),([fR],(.gZ 190)),([gS],(.gZ 189)),([lz,lA],(.item [lz,lA])),([kF],(.item [kF])),([iG],(.gZ 187)),([tW],(.gZ 186)),([mg,mh],(.gZ 185)),([mL],(.gZ 184)),([jI,oj,qy,mX],(.gZ 183)),([gL,gh,ig,fS,fW,il,fX,im,fY,gX],.nothing),([jc,jk,iK],(.pd 3)),([gp],(.gZ 182)),([fP],(.gZ 181))]
def Dv (bm bB bD:Nat) (w:gr) (af:BS bm bB w) (ht:yh w) (ae:bm < w.heap.size):
  Calls prog 111 #[iq bB] w (N8 bm bB bD lZ w):=by
 have l:=af;have aE:=@run_makeMap prog;have a5:=Cj.start bm bB bD w ht ae;go_enter func111,ntmps111;have⟨W1,b1,hW1,hb1,HS1⟩:=a5.map;have ad:=fN hW1;have a1:=fN hb1;clear hW1 hb1;go_wp21;rw[<-ad.out,<-a1.out];refine(HS1.nA _ [fP] (.gZ 181) (by rfl) (by rfl) rfl).mono ?_;rintro e W2 ⟨rfl,a6⟩;go_wp21;refine(a6.nA _ [gp] (.gZ 182) (by rfl) (by rfl) rfl).mono ?_;rintro e W3 ⟨rfl,a7⟩;go_wp21;refine(a7.made (pr bm bB bD 3 _) nofun).mono ?_;rintro e W4 ⟨f4,a4,l4,rfl,Y⟩;go_wp21;refine(Y.nA _ [jc,jk,iK] (.pd 3) (by rfl) (by rfl) (Y.at (by simp))).mono ?_;rintro e W5 ⟨rfl,a8⟩;go_wp21;refine(a8.nA _ [gL,gh,ig,fS,fW,il,fX,im,fY,gX] .nothing rfl (by rfl) rfl).mono ?_;rintro e W6 ⟨rfl,a9⟩;go_wp21;refine(a9.nA _ [jI,oj,qy,mX] (.gZ 183) (by rfl) (by rfl) rfl).mono ?_;rintro e W7 ⟨rfl,aa⟩;go_wp21;refine(aa.nA _ [mL] (.gZ 184) (by rfl) (by rfl) rfl).mono ?_;rintro e W8 ⟨rfl,ab⟩;go_wp21;refine(ab.nA _ [mg,mh] (.gZ 185) (by rfl) (by rfl) rfl).mono ?_;rintro e W9 ⟨rfl,ac⟩;go_wp21;refine(ac.nA _ [tW] (.gZ 186) (by rfl) (by rfl) rfl).mono ?_;rintro e ag ⟨rfl,m⟩;go_wp21;refine(m.nA _ [iG] (.gZ 187) (by rfl) (by rfl) rfl).mono ?_;rintro e ah ⟨rfl,n⟩;have⟨W12,g1,hW12,hg1,HSL1,HS12⟩:=n.slice [kF] #[gw kF] rfl;have Z:=fN hW12;have a2:=fN hg1;clear hW12 hg1;go_wp21;rw[<-Z.out,<-a2.out];refine(HS12.made (Qb HS12 l g1 1 [kF] HSL1 (by decide)) nofun).mono ?_;rintro e ai ⟨aC,aA,aF,rfl,g⟩;go_wp21;refine(g.nA _ [kF] (.item [kF]) (by rfl) (by rfl) (g.at (by simp))).mono ?_;rintro e aj ⟨rfl,o⟩;have⟨W15,g2,hW15,hg2,HSL2,HS15⟩:=o.slice [lz,lA] #[gw lz,gw lA] rfl;have a0:=fN hW15;have a3:=fN hg2;clear hW15 hg2;go_wp21;rw[<-a0.out,<-a3.out];refine(HS15.made (Qb HS15 l g2 2 [lz,lA] HSL2 (by decide)) nofun).mono ?_;rintro e ak ⟨aD,aB,aG,rfl,h⟩;go_wp21;refine(h.nA _ [lz,lA] (.item [lz,lA]) (by rfl) (by rfl) (h.at (by simp))).mono ?_;rintro e al ⟨rfl,q⟩;go_wp21;refine(q.nA _ [gS] (.gZ 189) (by rfl) (by rfl) rfl).mono ?_;rintro e am ⟨rfl,y⟩;go_wp21;refine(y.nA _ [fR] (.gZ 190) (by rfl) (by rfl) rfl).mono ?_;rintro e an ⟨rfl,A⟩;go_wp21;refine(A.nA _ [jx] (.gZ 191) (by rfl) (by rfl) rfl).mono ?_;rintro e ap ⟨rfl,D⟩;go_wp21;refine(D.nA _ [gE,fU] (.gZ 192) (by rfl) (by rfl) rfl).mono ?_;rintro e aq ⟨rfl,H⟩;go_wp21;refine(H.nA _ [iS] (.gZ 193) (by rfl) (by rfl) rfl).mono ?_;rintro e ar ⟨rfl,I⟩;go_wp21;refine(I.nA _ [jN,sX,jw] (.gZ 194) (by rfl) (by rfl) rfl).mono ?_;rintro e au ⟨rfl,J⟩;go_wp21;refine(J.nA _ [sY] (.gZ 195) (by rfl) (by rfl) rfl).mono ?_;rintro e aw ⟨rfl,N⟩;go_wp21;refine(N.nA _ [F9,Ay] (.gZ 196) (by rfl) (by rfl) rfl).mono ?_;rintro e ax ⟨rfl,U⟩;go_wp21;refine(U.nA _ [iB] (.gZ 197) (by rfl) (by rfl) rfl).mono ?_;rintro e ay ⟨rfl,V⟩;go_wp21;refine(V.nA _ [gO] (.gZ 198) (by rfl) (by rfl) rfl).mono ?_;rintro e az ⟨rfl,d⟩;go_wp2;go_ret;exact⟨b1,rfl,d.top.1,d.top.2.1,d.top.2.2,d.k⟩
def ku:mB:={jW:= .gZ 110,gJ:= .gJ 95 true,start:=some lZ,stop:=some lY,jK:= .gZ 112,j9:= .gZ 114,iy:= .nothing}
def YI (bm bB bD:Nat) (w:gr) (Y:BS bm bB w) (Z:yh w) (y:bm < w.heap.size):
  Calls prog 65 #[iq bB] w (jF bm bB bD ku w):=by
 have⟨W0,hW0,HS0⟩:=St.start bm bB bD w Z y;have J:=Y;have n:=fN hW0;clear hW0;go_enter func65,ntmps65;go_wp21;rw[<-n.out];refine(HS0.made (oh bm bB bD 95 true _) nofun).mono ?_;rintro e W1 ⟨V,U,l1,rfl,g⟩;go_wp21;refine(Dv bm bB bD _ (J.ib g.k) g.t (mf g.lt g.k.size)).mono ?_;rintro e W2 ⟨b1,rfl,H,o,l,A⟩;have h:=g.mapOf A H o l;go_wp21;refine(Gi bm bB bD _ h.t (mf h.lt h.k.size)).mono ?_;rintro e W3 ⟨b2,rfl,I,q,m,D⟩;have d:=h.mapOf D I q m;have N:=jv (sp:=ku) (v0:= .nilFunc) (v1:= .func (.func 110) #[iq bB] #[]) (v2:= .func V U l1) (v3:= .nilFunc) (v4:= .nilFunc) (v5:= .map (some b1)) (v6:= .map (some b2)) (v7:= .func (.func 112) #[iq bB] #[]) (v8:= .func (.func 114) #[iq bB] #[]) (v9:= .func (.func 87) #[] #[]) d.g d.k ⟨rfl,rfl,(d.at (r:= .gJ 95 true) (by simp)),rfl,rfl,(d.oE (by simp)),(d.oE (by simp)),rfl,rfl,rfl⟩ _ rfl;have⟨q0,q1,q2,q3,q4,q5,q6,q7,q8,q9⟩:=kg d.g;have u:=gu d.g;go_wp2;exact km results65 rfl rfl N
def ld:mB:={blank:= .nothing,gJ:= .gJ 89 false,iH:= .nothing,start:=some [([fP],(.gZ 93))],stop:=some [([gL,gp,fP,jN],(.gZ 94))],j9:= .nothing,iy:= .gZ 94}
def Np (bm bB bD:Nat) (w:gr) (I:BD bB bD w) (N:yh w) (y:bm < w.heap.size):
  Calls prog 60 #[iq bB] w (jF bm bB bD ld w):=by
 have J:=@run_makeMap prog;have⟨W0,hW0,HS0⟩:=St.start bm bB bD w N y;have⟨wZ,hBl⟩:=I;have n:=fN hW0;clear hW0;go_enter func60,ntmps60;go_wp21;rw[<-n.out];refine(HS0.made (oh bm bB bD 89 false _) nofun).mono ?_;rintro e V ⟨H,D,U,rfl,l⟩;have⟨W2,b1,hW2,hb1,HS2⟩:=l.map;have o:=fN hW2;have g:=fN hb1;clear hW2 hb1;go_wp21;rw[<-o.out,<-g.out];refine(HS2.nA _ [fP] (.gZ 93) (by rfl) (by rfl) rfl).mono ?_;rintro e Y ⟨rfl,m⟩;have⟨W4,b2,hW4,hb2,HS4⟩:=m.map;have q:=fN hW4;have h:=fN hb2;clear hW4 hb2;go_wp21;rw[<-q.out,<-h.out];refine(HS4.nA _ [gL,gp,fP,jN] (.gZ 94) (by rfl) (by rfl) rfl).mono ?_;rintro e Z ⟨rfl,d⟩;have A:=jv (sp:=ld) (v0:= .func (.func 87) #[] #[]) (v1:= .nilFunc) (v2:= .func H D U) (v3:= .func (.func 87) #[] #[]) (v4:= .nilFunc) (v5:= .map (some b1)) (v6:= .map (some b2)) (v7:= .nilFunc) (v8:= .func (.func 87) #[] #[]) (v9:= .func (.func 94) #[iq bB] #[]) d.g d.k ⟨rfl,rfl,(d.at (r:= .gJ 89 false) (by simp)),rfl,rfl,(d.oE (by simp)),(d.oE (by simp)),rfl,rfl,rfl⟩ _ rfl;have⟨q0,q1,q2,q3,q4,q5,q6,q7,q8,q9⟩:=kg d.g;have u:=gu d.g;go_wp2;exact km results60 rfl rfl A
def lf:mB:={blank:= .nothing,gJ:= .gJ 95 true,iH:= .nothing,start:=some [([gL],(.gZ 97)),([fP],(.pd 6))],stop:=some [([gL,gp,fP,jN],(.gZ 98))],j9:= .nothing,iy:= .gZ 98}
def Nq (bm bB bD:Nat) (w:gr) (N:BD bB bD w) (V:yh w) (D:bm < w.heap.size):
  Calls prog 61 #[iq bB] w (jF bm bB bD lf w):=by
 have U:=@run_makeMap prog;have⟨W0,hW0,HS0⟩:=St.start bm bB bD w V D;have⟨wZ,hBl⟩:=N;have q:=fN hW0;clear hW0;go_enter func61,ntmps61;go_wp21;rw[<-q.out];refine(HS0.made (oh bm bB bD 95 true _) nofun).mono ?_;rintro e Z ⟨J,I,Y,rfl,m⟩;have⟨W2,b1,hW2,hb1,HS2⟩:=m.map;have y:=fN hW2;have h:=fN hb1;clear hW2 hb1;go_wp21;rw[<-y.out,<-h.out];refine(HS2.made (pr bm bB bD 6 _) nofun).mono ?_;rintro e W3 ⟨f3,a3,l3,rfl,g⟩;go_wp21;refine(g.nA _ [fP] (.pd 6) (by rfl) (by rfl) (g.at (by simp))).mono ?_;rintro e W4 ⟨rfl,n⟩;go_wp21;refine(n.nA _ [gL] (.gZ 97) (by rfl) (by rfl) rfl).mono ?_;rintro e W5 ⟨rfl,o⟩;have⟨W6,b2,hW6,hb2,HS6⟩:=o.map;have A:=fN hW6;have l:=fN hb2;clear hW6 hb2;go_wp21;rw[<-A.out,<-l.out];refine(HS6.nA _ [gL,gp,fP,jN] (.gZ 98) (by rfl) (by rfl) rfl).mono ?_;rintro e W7 ⟨rfl,d⟩;have H:=jv (sp:=lf) (v0:= .func (.func 87) #[] #[]) (v1:= .nilFunc) (v2:= .func J I Y) (v3:= .func (.func 87) #[] #[]) (v4:= .nilFunc) (v5:= .map (some b1)) (v6:= .map (some b2)) (v7:= .nilFunc) (v8:= .func (.func 87) #[] #[]) (v9:= .func (.func 98) #[iq bB] #[]) d.g d.k ⟨rfl,rfl,(d.at (r:= .gJ 95 true) (by simp)),rfl,rfl,(d.oE (by simp)),(d.oE (by simp)),rfl,rfl,rfl⟩ _ rfl;have⟨q0,q1,q2,q3,q4,q5,q6,q7,q8,q9⟩:=kg d.g;have u:=gu d.g;go_wp2;exact km results61 rfl rfl H
def lD:mB:={blank:= .gZ 99,gJ:= .gJ 95 true,iH:= .nothing,start:=some [([iK],(.gZ 102)),([jk],(.gZ 101)),([jc],(.gZ 100)),([fP],(.pd 6)),([gL],.nothing)],stop:=some [([gp,fP,jN],(.gZ 104)),([gL],(.gZ 103))],j9:= .nothing,iy:= .gZ 104}
def YK (bm bB bD:Nat) (w:gr) (hb:BD bB bD w) (ht:yh w) (N:bm < w.heap.size):
  Calls prog 62 #[iq bB] w (jF bm bB bD lD w):=by
 have a0:=@run_makeMap prog;have⟨W0,hW0,HS0⟩:=St.start bm bB bD w ht N;have⟨wZ,hBl⟩:=hb;have H:=fN hW0;clear hW0;go_enter func62,ntmps62;go_wp21;rw[<-H.out];refine(HS0.made (oh bm bB bD 95 true _) nofun).mono ?_;rintro e W1 ⟨f1,Z,l1,rfl,n⟩;have⟨W2,b1,hW2,hb1,HS2⟩:=n.map;have I:=fN hW2;have l:=fN hb1;clear hW2 hb1;go_wp21;rw[<-I.out,<-l.out];refine(HS2.nA _ [gL] .nothing (by rfl) (by rfl) rfl).mono ?_;rintro e W3 ⟨rfl,o⟩;go_wp21;refine(o.made (pr bm bB bD 6 _) nofun).mono ?_;rintro e W4 ⟨f4,a4,l4,rfl,h⟩;go_wp21;refine(h.nA _ [fP] (.pd 6) (by rfl) (by rfl) (h.at (by simp))).mono ?_;rintro e W5 ⟨rfl,q⟩;go_wp21;refine(q.nA _ [jc] (.gZ 100) (by rfl) (by rfl) rfl).mono ?_;rintro e W6 ⟨rfl,y⟩;go_wp21;refine(y.nA _ [jk] (.gZ 101) (by rfl) (by rfl) rfl).mono ?_;rintro e W7 ⟨rfl,A⟩;go_wp21;refine(A.nA _ [iK] (.gZ 102) (by rfl) (by rfl) rfl).mono ?_;rintro e W8 ⟨rfl,D⟩;have⟨W9,b2,hW9,hb2,HS9⟩:=D.map;have J:=fN hW9;have m:=fN hb2;clear hW9 hb2;go_wp21;rw[<-J.out,<-m.out];refine(HS9.nA _ [gL] (.gZ 103) (by rfl) (by rfl) rfl).mono ?_;rintro e V ⟨rfl,g⟩;go_wp21;refine(g.nA _ [gp,fP,jN] (.gZ 104) (by rfl) (by rfl) rfl).mono ?_;rintro e Y ⟨rfl,d⟩;have U:=jv (sp:=lD) (v0:= .func (.func 99) #[iq bB] #[]) (v1:= .nilFunc) (v2:= .func f1 Z l1) (v3:= .func (.func 87) #[] #[]) (v4:= .nilFunc) (v5:= .map (some b1)) (v6:= .map (some b2)) (v7:= .nilFunc) (v8:= .func (.func 87) #[] #[]) (v9:= .func (.func 104) #[iq bB] #[]) d.g d.k ⟨rfl,rfl,(d.at (r:= .gJ 95 true) (by simp)),rfl,rfl,(d.oE (by simp)),(d.oE (by simp)),rfl,rfl,rfl⟩ _ rfl;have⟨q0,q1,q2,q3,q4,q5,q6,q7,q8,q9⟩:=kg d.g;have u:=gu d.g;go_wp2;exact km results62 rfl rfl U
def mu:mB:={blank:= .gZ 99,gJ:= .gJ 95 true,iH:= .nothing,start:=some [([jc,jk,iK],(.gZ 106)),([gp],(.gZ 105)),([fP],(.pd 6)),([gL],.nothing)],stop:=some [([gp,fP,jN],(.gZ 107))],j9:= .nothing,iy:= .gZ 107}
def PS (bm bB bD:Nat) (w:gr) (V:BD bB bD w) (Z:yh w) (I:bm < w.heap.size):
  Calls prog 63 #[iq bB] w (jF bm bB bD mu w):=by
 have Y:=@run_makeMap prog;have⟨W0,hW0,HS0⟩:=St.start bm bB bD w Z I;have⟨wZ,hBl⟩:=V;have A:=fN hW0;clear hW0;go_enter func63,ntmps63;go_wp21;rw[<-A.out];refine(HS0.made (oh bm bB bD 95 true _) nofun).mono ?_;rintro e W1 ⟨U,N,l1,rfl,m⟩;have⟨W2,b1,hW2,hb1,HS2⟩:=m.map;have D:=fN hW2;have h:=fN hb1;clear hW2 hb1;go_wp21;rw[<-D.out,<-h.out];refine(HS2.nA _ [gL] .nothing (by rfl) (by rfl) rfl).mono ?_;rintro e W3 ⟨rfl,n⟩;go_wp21;refine(n.made (pr bm bB bD 6 _) nofun).mono ?_;rintro e W4 ⟨f4,a4,l4,rfl,g⟩;go_wp21;refine(g.nA _ [fP] (.pd 6) (by rfl) (by rfl) (g.at (by simp))).mono ?_;rintro e W5 ⟨rfl,o⟩;go_wp21;refine(o.nA _ [gp] (.gZ 105) (by rfl) (by rfl) rfl).mono ?_;rintro e W6 ⟨rfl,q⟩;go_wp21;refine(q.nA _ [jc,jk,iK] (.gZ 106) (by rfl) (by rfl) rfl).mono ?_;rintro e W7 ⟨rfl,y⟩;have⟨W8,b2,hW8,hb2,HS8⟩:=y.map;have H:=fN hW8;have l:=fN hb2;clear hW8 hb2;go_wp21;rw[<-H.out,<-l.out];refine(HS8.nA _ [gp,fP,jN] (.gZ 107) (by rfl) (by rfl) rfl).mono ?_;rintro e W9 ⟨rfl,d⟩;have J:=jv (sp:=mu) (v0:= .func (.func 99) #[iq bB] #[]) (v1:= .nilFunc) (v2:= .func U N l1) (v3:= .func (.func 87) #[] #[]) (v4:= .nilFunc) (v5:= .map (some b1)) (v6:= .map (some b2)) (v7:= .nilFunc) (v8:= .func (.func 87) #[] #[]) (v9:= .func (.func 107) #[iq bB] #[]) d.g d.k ⟨rfl,rfl,(d.at (r:= .gJ 95 true) (by simp)),rfl,rfl,(d.oE (by simp)),(d.oE (by simp)),rfl,rfl,rfl⟩ _ rfl;have⟨q0,q1,q2,q3,q4,q5,q6,q7,q8,q9⟩:=kg d.g;have u:=gu d.g;go_wp2;exact km results63 rfl rfl J
def qP:mB:={jW:= .gZ 99,ie:= .gZ 108,iy:= .gZ 109}
def YL (bm bB bD:Nat) (w:gr) (g:BD bB bD w) (l:yh w) (d:bm < w.heap.size):
  Calls prog 64 #[iq bB] w (jF bm bB bD qP w):=by
 have h:=@run_makeMap prog;have⟨W0,HW0,HS0⟩:=St.start bm bB bD w l d;have⟨wZ,hBl⟩:=g;go_enter func64,ntmps64;go_wp2;exact km results64 rfl rfl ⟨fQ w _,⟨rfl,rfl,rfl,rfl,rfl,rfl,rfl,rfl,rfl,rfl⟩,(Kept.refl _ _).alloc _⟩
def kJ:mB:={jW:= .gZ 126,iy:= .gZ 127}
def Ku (bm bB bD:Nat) (w:gr) (g:BD bB bD w) (l:yh w) (d:bm < w.heap.size):
  Calls prog 67 #[iq bB] w (jF bm bB bD kJ w):=by
 have h:=@run_makeMap prog;have⟨W0,HW0,HS0⟩:=St.start bm bB bD w l d;have⟨wZ,hBl⟩:=g;go_enter func67,ntmps67;go_wp2;exact km results67 rfl rfl ⟨fQ w _,⟨rfl,rfl,rfl,rfl,rfl,rfl,rfl,rfl,rfl,rfl⟩,(Kept.refl _ _).alloc _⟩
def yP:mB:={start:=some [([gh,ig,fS,fW,il,fX,im,fY,gX],(.ahead 128))],stop:=some [([gp,ig,fS,fP,fW,il,fX,im,fY,gX],.nothing),([fR],(.ahead 128)),([gh],(.ends 128))],iy:= .pd 6}
def PT (bm bB bD:Nat) (w:gr) (hb:BD bB bD w) (ht:yh w) (U:bm < w.heap.size):
  Calls prog 68 #[iq bB] w (jF bm bB bD yP w):=by
 have a0:=@run_makeMap prog;have⟨W0,hW0,HS0⟩:=St.start bm bB bD w ht U;have⟨wZ,hBl⟩:=hb;have m:=fN hW0;clear hW0;go_enter func68,ntmps68;have⟨W1,b1,hW1,hb1,HS1⟩:=HS0.map;have H:=fN hW1;have n:=fN hb1;clear hW1 hb1;go_wp21;rw[<-m.out];rw[<-H.out,show w.heap.size+1=b1 by rw[n.out,m.out];simp];refine(HS1.made (nY bm bB bD 128 _) nofun).mono ?_;rintro e W2 ⟨f2,a2,l2,rfl,g⟩;go_wp21;refine(g.nA _ [gh,ig,fS,fW,il,fX,im,fY,gX] (.ahead 128) rfl (by rfl) (g.at (by simp))).mono ?_;rintro e W3 ⟨rfl,q⟩;have⟨W4,b2,hW4,hb2,HS4⟩:=q.map;have I:=fN hW4;have o:=fN hb2;clear hW4 hb2;go_wp21;rw[<-I.out,<-o.out];refine(HS4.made (wO bm bB bD 128 _) nofun).mono ?_;rintro e W5 ⟨f5,a5,l5,rfl,h⟩;go_wp21;refine(h.nA _ [gh] (.ends 128) (by rfl) (by rfl) (h.at (by simp))).mono ?_;rintro e W6 ⟨rfl,y⟩;go_wp21;refine(y.made (nY bm bB bD 128 _) nofun).mono ?_;rintro e W7 ⟨f7,a7,l7,rfl,l⟩;go_wp21;refine(l.nA _ [fR] (.ahead 128) (by rfl) (by rfl) (l.at (by simp))).mono ?_;rintro e W8 ⟨rfl,A⟩;go_wp21;refine(A.nA _ [gp,ig,fS,fP,fW,il,fX,im,fY,gX] .nothing rfl (by rfl) rfl).mono ?_;rintro e W9 ⟨rfl,D⟩;go_wp21;refine(D.made (pr bm bB bD 6 _) nofun).mono ?_;rintro e Z ⟨N,J,V,rfl,d⟩;have Y:=jv (sp:=yP) (v0:= .nilFunc) (v1:= .nilFunc) (v2:= .nilFunc) (v3:= .nilFunc) (v4:= .nilFunc) (v5:= .map (some b1)) (v6:= .map (some b2)) (v7:= .nilFunc) (v8:= .nilFunc) (v9:= .func N J V) d.g d.k ⟨rfl,rfl,rfl,rfl,rfl,(d.oE (by simp)),(d.oE (by simp)),rfl,rfl,(d.at (r:= .pd 6) (by simp))⟩ _ rfl;have⟨q0,q1,q2,q3,q4,q5,q6,q7,q8,q9⟩:=kg d.g;have u:=gu d.g;go_wp2;exact km results68 rfl rfl Y
def BZ:mB:={jW:= .gZ 115,gJ:= .gJ 95 true,iH:= .nothing,start:=some [([jw],(.gZ 123)),([iG],(.gZ 122)),([iK],(.pd 3)),([fR],(.ahead 121)),([il,im,gX],(.nF [fR] fW 11)),([fW,fX,fY],(.rp [fR] 11)),([ig],(.nF [fR] fS 10)),([fS],(.rp [fR] 10)),([gh],(.gZ 116))],stop:=some [([gp,gh,ig,fS,fP,fW,il,fX,im,fY,gX],.nothing),([fR],(.ends 121))],iy:= .gZ 125}
def VK (bm bB bD:Nat) (w:gr) (hb:BD bB bD w) (ht:yh w) (ai:bm < w.heap.size):
  Calls prog 66 #[iq bB] w (jF bm bB bD BZ w):=by
 have aQ:=@run_makeMap prog;have⟨W0,hW0,HS0⟩:=St.start bm bB bD w ht ai;have⟨wZ,hBl⟩:=hb;have ag:=fN hW0;clear hW0;go_enter func66,ntmps66;go_wp21;rw[<-ag.out];refine(HS0.made (oh bm bB bD 95 true _) nofun).mono ?_;rintro e W1 ⟨f1,a1,l1,rfl,aa⟩;have⟨W2,b1,hW2,hb1,HS2⟩:=aa.map;have ah:=fN hW2;have a6:=fN hb1;clear hW2 hb1;go_wp21;rw[<-ah.out,<-a6.out];refine(HS2.nA _ [gh] (.gZ 116) (by rfl) (by rfl) rfl).mono ?_;rintro e W3 ⟨rfl,ab⟩;go_wp21;refine(ab.UM (AQ bm _)).mono ?_;rintro e W4 ⟨f4,a4,l4,rfl,a2,ac⟩;go_wp21;refine(ac.made (AO bm bB bD [fR] 10 _ _ a2) nofun).mono ?_;rintro e W5 ⟨f5,a5,l5,rfl,Y⟩;go_wp21;refine(Y.nA _ [fS] (.rp [fR] 10) (by rfl) (by rfl) (Y.at (by simp))).mono ?_;rintro e W6 ⟨rfl,ad⟩;go_wp21;refine(ad.UM (AQ bm _)).mono ?_;rintro e W7 ⟨f7,a7,l7,rfl,a3,ae⟩;go_wp21;refine(ae.made (BV bm bB bD [fR] fS 10 _ _ a3) nofun).mono ?_;rintro e W8 ⟨f8,a8,l8,rfl,Z⟩;go_wp21;refine(Z.nA _ [ig] (.nF [fR] fS 10) (by rfl) (by rfl) (Z.at (by simp))).mono ?_;rintro e W9 ⟨rfl,af⟩;go_wp21;refine(af.UM (AQ bm _)).mono ?_;rintro e aj ⟨aJ,aC,aR,rfl,o,y⟩;go_wp21;refine(y.made (AO bm bB bD [fR] 11 _ _ o) nofun).mono ?_;rintro e ak ⟨aK,aD,aS,rfl,g⟩;go_wp21;refine(g.nA _ [fW,fX,fY] (.rp [fR] 11) (by rfl) (by rfl) (g.at (by simp))).mono ?_;rintro e al ⟨rfl,A⟩;go_wp21;refine(A.UM (AQ bm _)).mono ?_;rintro e am ⟨aL,aE,aT,rfl,q,D⟩;go_wp21;refine(D.made (BV bm bB bD [fR] fW 11 _ _ q) nofun).mono ?_;rintro e an ⟨aM,aF,aU,rfl,h⟩;go_wp21;refine(h.nA _ [il,im,gX] (.nF [fR] fW 11) (by rfl) (by rfl) (h.at (by simp))).mono ?_;rintro e ap ⟨rfl,H⟩;go_wp21;refine(H.made (nY bm bB bD 121 _) nofun).mono ?_;rintro e aq ⟨aN,aG,aV,rfl,l⟩;go_wp21;refine(l.nA _ [fR] (.ahead 121) (by rfl) (by rfl) (l.at (by simp))).mono ?_;rintro e ar ⟨rfl,I⟩;go_wp21;refine(I.made (pr bm bB bD 3 _) nofun).mono ?_;rintro e au ⟨aO,aH,aW,rfl,m⟩;go_wp21;refine(m.nA _ [iK] (.pd 3) (by rfl) (by rfl) (m.at (by simp))).mono ?_;rintro e aw ⟨rfl,J⟩;go_wp21;refine(J.nA _ [iG] (.gZ 122) (by rfl) (by rfl) rfl).mono ?_;rintro e ax ⟨rfl,N⟩;go_wp21;refine(N.nA _ [jw] (.gZ 123) (by rfl) (by rfl) rfl).mono ?_;rintro e ay ⟨rfl,U⟩;have⟨W22,b2,hW22,hb2,HS22⟩:=U.map;have a0:=fN hW22;have a9:=fN hb2;clear hW22 hb2;go_wp21;rw[<-a0.out,<-a9.out];refine(HS22.made (wO bm bB bD 121 _) nofun).mono ?_;rintro e az ⟨aP,aI,aX,rfl,n⟩;go_wp21;refine(n.nA _ [fR] (.ends 121) (by rfl) (by rfl) (n.at (by simp))).mono ?_;rintro e aA ⟨rfl,V⟩;go_wp21;refine(V.nA _ [gp,gh,ig,fS,fP,fW,il,fX,im,fY,gX] .nothing rfl rfl rfl).mono ?_;rintro e aB ⟨rfl,d⟩;have HF:=jv (sp:=BZ) (v0:= .nilFunc) (v1:= .func (.func 115) #[iq bB] #[]) (v2:= .func f1 a1 l1) (v3:= .func (.func 87) #[] #[]) (v4:= .nilFunc) (v5:= .map (some b1)) (v6:= .map (some b2)) (v7:= .nilFunc) (v8:= .nilFunc) (v9:= .func (.func 125) #[iq bB] #[]) d.g d.k ⟨rfl,rfl,(d.at (r:= .gJ 95 true) (by simp)),rfl,rfl,(d.oE (by simp)),(d.oE (by simp)),rfl,rfl,rfl⟩ _ rfl;have⟨q0,q1,q2,q3,q4,q5,q6,q7,q8,q9⟩:=kg d.g;have u:=gu d.g;go_wp2;exact km results66 rfl rfl HF
def qO:mB:={blank:= .gZ 99,gJ:= .gJ 95 true,iH:= .nothing,ie:= .pd 6,start:=some [([ig],(.gZ 100)),([fP],(.pd 6))],stop:=some [([fS],(.ends 129)),([ig],.nothing)],iy:= .ahead 129}
def Gj (bm bB bD:Nat) (w:gr) (hb:BD bB bD w) (ht:yh w) (V:bm < w.heap.size):
  Calls prog 69 #[iq bB] w (jF bm bB bD qO w):=by
 have a5:=@run_makeMap prog;have⟨W0,hW0,HS0⟩:=St.start bm bB bD w ht V;have⟨wZ,hBl⟩:=hb;have H:=fN hW0;clear hW0;go_enter func69,ntmps69;go_wp21;rw[<-H.out];refine(HS0.made (oh bm bB bD 95 true _) nofun).mono ?_;rintro e W1 ⟨f1,a1,l1,rfl,o⟩;go_wp21;refine(o.made (pr bm bB bD 6 _) nofun).mono ?_;rintro e W2 ⟨f2,a2,l2,rfl,q⟩;have⟨W3,b1,hW3,hb1,HS3⟩:=q.map;have I:=fN hW3;have m:=fN hb1;clear hW3 hb1;go_wp21;rw[<-I.out,<-m.out];refine(HS3.made (pr bm bB bD 6 _) nofun).mono ?_;rintro e W4 ⟨f4,a4,l4,rfl,h⟩;go_wp21;refine(h.nA _ [fP] (.pd 6) (by rfl) (by rfl) (h.at (by simp))).mono ?_;rintro e W5 ⟨rfl,y⟩;go_wp21;refine(y.nA _ [ig] (.gZ 100) (by rfl) (by rfl) rfl).mono ?_;rintro e W6 ⟨rfl,A⟩;have⟨W7,b2,hW7,hb2,HS7⟩:=A.map;have J:=fN hW7;have n:=fN hb2;clear hW7 hb2;go_wp21;rw[<-J.out,<-n.out];refine(HS7.nA _ [ig] .nothing (by rfl) (by rfl) rfl).mono ?_;rintro e W8 ⟨rfl,D⟩;go_wp21;refine(D.made (wO bm bB bD 129 _) nofun).mono ?_;rintro e W9 ⟨f9,a9,l9,rfl,l⟩;go_wp21;refine(l.nA _ [fS] (.ends 129) (by rfl) (by rfl) (l.at (by simp))).mono ?_;rintro e a0 ⟨rfl,g⟩;go_wp21;refine(g.made (nY bm bB bD 129 _) nofun).mono ?_;rintro e a3 ⟨U,N,Y,rfl,d⟩;have Z:=jv (sp:=qO) (v0:= .func (.func 99) #[iq bB] #[]) (v1:= .nilFunc) (v2:= .func f1 a1 l1) (v3:= .func (.func 87) #[] #[]) (v4:= .func f2 a2 l2) (v5:= .map (some b1)) (v6:= .map (some b2)) (v7:= .nilFunc) (v8:= .nilFunc) (v9:= .func U N Y) d.g d.k ⟨rfl,rfl,(d.at (r:= .gJ 95 true) (by simp)),rfl,(d.at (r:= .pd 6) (by simp)),(d.oE (by simp)),(d.oE (by simp)),rfl,rfl,(d.at (r:= .ahead 129) (by simp))⟩ _ rfl;have⟨q0,q1,q2,q3,q4,q5,q6,q7,q8,q9⟩:=kg d.g;have u:=gu d.g;go_wp2;exact km results69 rfl rfl Z
def oI:mB:={start:=some [([gh,ig,fS,fW,fX,fY],(.ahead 131)),([il,im],(.nF [fW,fX,fY] gX 12)),([gX],(.rp [fW,fX,fY] 12))],stop:=some [([gp,gh,ig,fS,fP,il,im,gX],.nothing),([fR],(.ahead 131)),([fW,fX,fY],(.MR (.ends 131)))],iy:= .pd 7}
def Kt (bm bB bD:Nat) (w:gr) (hb:BD bB bD w) (ht:yh w) (aa:bm < w.heap.size):
  Calls prog 70 #[iq bB] w (jF bm bB bD oI w):=by
 have aq:=@run_makeMap prog;have⟨W0,hW0,HS0⟩:=St.start bm bB bD w ht aa;have⟨wZ,hBl⟩:=hb;have D:=fN hW0;clear hW0;go_enter func70,ntmps70;have⟨W1,b1,hW1,hb1,HS1⟩:=HS0.map;have a4:=fN hW1;have N:=fN hb1;clear hW1 hb1;go_wp21;rw[<-D.out];rw[<-a4.out,show w.heap.size+1=b1 by rw[N.out,D.out];simp];refine(HS1.UM (zn bm _)).mono ?_;rintro e W2 ⟨f2,a2,l2,rfl,I,V⟩;go_wp21;refine(V.made (AO bm bB bD [fW,fX,fY] 12 _ _ I) nofun).mono ?_;rintro e W3 ⟨f3,a3,l3,rfl,q⟩;go_wp21;refine(q.nA _ [gX] (.rp [fW,fX,fY] 12) (by rfl) (by rfl) (q.at (by simp))).mono ?_;rintro e W4 ⟨rfl,Y⟩;go_wp21;refine(Y.UM (zn bm _)).mono ?_;rintro e W5 ⟨f5,a5,l5,rfl,J,Z⟩;go_wp21;refine(Z.made (BV bm bB bD [fW,fX,fY] gX 12 _ _ J) nofun).mono ?_;rintro e W6 ⟨f6,a6,l6,rfl,y⟩;go_wp21;refine(y.nA _ [il,im] (.nF [fW,fX,fY] gX 12) (by rfl) (by rfl) (y.at (by simp))).mono ?_;rintro e W7 ⟨rfl,a0⟩;go_wp21;refine(a0.made (nY bm bB bD 131 _) nofun).mono ?_;rintro e W8 ⟨f8,a8,l8,rfl,A⟩;go_wp21;refine(A.nA _ [gh,ig,fS,fW,fX,fY] (.ahead 131) rfl (by rfl) (A.at (by simp))).mono ?_;rintro e W9 ⟨rfl,a1⟩;have⟨W10,b2,hW10,hb2,HS10⟩:=a1.map;have H:=fN hW10;have U:=fN hb2;clear hW10 hb2;go_wp21;rw[<-H.out,<-U.out];refine(HS10.made (wO bm bB bD 131 _) nofun).mono ?_;rintro e ac ⟨am,aj,ar,rfl,g⟩;go_wp21;refine(g.made (Ja bm bB bD (.ends 131) _ _ (by simp) (g.at (by simp))) nofun).mono ?_;rintro e ad ⟨an,ak,au,rfl,h⟩;go_wp21;refine(h.nA _ [fW,fX,fY] (.MR (.ends 131)) (by rfl) (by rfl) (h.at (by simp))).mono ?_;rintro e ae ⟨rfl,m⟩;go_wp21;refine(m.made (nY bm bB bD 131 _) nofun).mono ?_;rintro e af ⟨ap,al,aw,rfl,l⟩;go_wp21;refine(l.nA _ [fR] (.ahead 131) (by rfl) (by rfl) (l.at (by simp))).mono ?_;rintro e ag ⟨rfl,n⟩;go_wp21;refine(n.nA _ [gp,gh,ig,fS,fP,il,im,gX] .nothing (by rfl) (by rfl) rfl).mono ?_;rintro e ah ⟨rfl,o⟩;go_wp21;refine(o.made (pr bm bB bD 7 _) nofun).mono ?_;rintro e ai ⟨a9,a7,ab,rfl,d⟩;have HF:=jv (sp:=oI) (v0:= .nilFunc) (v1:= .nilFunc) (v2:= .nilFunc) (v3:= .nilFunc) (v4:= .nilFunc) (v5:= .map (some b1)) (v6:= .map (some b2)) (v7:= .nilFunc) (v8:= .nilFunc) (v9:= .func a9 a7 ab) d.g d.k ⟨rfl,rfl,rfl,rfl,rfl,(d.oE (by simp)),(d.oE (by simp)),rfl,rfl,(d.at (r:= .pd 7) (by simp))⟩ _ rfl;have⟨q0,q1,q2,q3,q4,q5,q6,q7,q8,q9⟩:=kg d.g;have u:=gu d.g;go_wp2;exact km results70 rfl rfl HF
end
end Go.Proofs.YtccjlklnkhagdaaGreatDoor
