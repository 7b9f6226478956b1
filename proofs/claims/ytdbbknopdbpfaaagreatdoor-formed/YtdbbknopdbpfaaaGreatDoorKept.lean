import Derived.WalkSpells
import Derived.WalkLawsBesides
import Derived.Lib.AppendZerosOnto
import Derived.Shelf.Spec.SlicesInsert
import Derived.RangeFuncNested
import Derived.RangeFuncBound
import Derived.Shelf.RegionOpen
import Derived.OwnWalkIn
import Derived.LoopNIn
import Derived.LoopIn
import Derived.Deep.RegionHeld3
import Derived.PlainAid
import Derived.Test.YtdbbknopdbpfaaaGreatDoorShelf
import Derived.Lib.ItoaMem
import Derived.Laws.EntriesVeiled
import Derived.Great.BuildSlice
set_option linter.unusedSimpArgs false
set_option linter.unusedVariables false
set_option linter.defProp false
set_option maxHeartbeats 0
set_option maxRecDepth 100000
namespace Go.Proofs.YtdbbknopdbpfaaaGreatDoor
open Go.RowKit Go.PlainAid Tryz
def ic:=@Nat.le_refl
def jZ:=@Nat.le_trans
def nr:=@Nat.lt_of_lt_of_le
def ahr:=@World.cell?_of_block
def ja:=@lt_of_block
def TE:=@List.eq_nil_of_length_eq_zero
def pP:=@World.ownsRow_nil
def Xx:=@if_neg
def sL:=@if_pos
def gM:=@List.getElem?_take
def gy:=@run_underlying
def Hl:=@decide_eq_true
def qW:=@decide_eq_false
def wK:=@List.getElem_mem
def yB:=@wp_loop_rounds
def uE:=@rounds_succ
def yY:=@List.take_succ_eq_append_getElem
def qz:=@info_parts
def sQ:=@List.getElem?_drop
def ahq:=@Nat.mul_one
def yC:=@List.mem_of_mem_drop
def jC:=@Array.getElem?_eq_getElem
def vu:=@List.append_assoc
def abt:=@List.take_append_of_le_length
def Hn:=@List.take_take
def NY:=@Nat.min_eq_left
def vw:=@run_callFunc_extern
def NZ:=@List.take_of_length_le
def QT:=@List.drop_of_length_le
def Xt:=@List.append_nil
def abu:=@List.nil_append
def C7:=@run_copy_cells
def Ki:=@Option.some.inj
def yZ:=@Ne.symm
def rF:=@ownsRow_setCell_other
def abv:=@List.mem_cons_of_mem
def y7:=@List.dropLast_eq_take
def rZ:=@List.map_append
def lp:=@List.map_take
def ahs:=@List.mem_of_getElem?
def pU:=@List.eq_nil_or_concat
def n4:=@List.dropLast_concat
def uF:=@bodyPost_ret
def QU:=@results_none
def aht:=@World.putObj_heap_other
def abw:=@List.size_toArray
def pG:=@List.length_cons
def Kk:=@List.length_nil
def sR:=@Array.replicate_succ
def yD:=@Array.replicate_zero
def wL:=@List.push_toArray
def yE:=@List.append_toArray
def yF:=@List.cons_append
def yG:=@List.getElem?_eq_getElem
def yH:=@List.take_add_one
def sd:=@ByteArray.toList_eq
def Xu:=@World.size_alloc
def DZ:=@congrArg
def sS:=@Array.size_setIfInBounds
def ahu:=@MapKept.run_getObj_map
def qo:=@Array.getElem?_toList
def abx:=@List.filter_eq_nil_iff
def xh:=@Bool.and_eq_true
def Xv:=@List.mem_filter
def Xw:=@Array.getD_eq_getD_getElem?
def Ho:=@Array.getElem?_eq_none
def N1:=@List.mem_cons_self
def aby:=@List.getD_eq_getElem?_getD
def ahv:=@List.getElem?_append_left
def qp:=@List.all_eq_true
def Xy:=@List.mem_range
def Xz:=@wp_region_any
def N2:=@wpOp_step
def kH:=@Lib.run_eql_slice_nil
def xj:=@Nat.zero_le
def XA:=@World.cell?_alloc_lt
def QV:=@List.take_append_drop
def XB:=@callsIn_wide
def vE:=@List.flatMap_append
def wM:=@List.map_cons
def nG:=@grownBy_putObj'
def XC:=@wpIn_rangeFunc
def iT:=@run_endLoop
def vF:=@World.putObj_heap_same
def C8:=@wpIn_mono
def C9:=@KeepsOthers.setCell
def QW:=@run_enterLoop_outer
def Da:=@World.alloc_heap_new
def abz:=@callsIn_of_wp_marks
def N3:=@List.length_append
def N4:=@run_takeDeferred
def D0:=@Nat.lt_or_ge
def abA:=@List.length_eraseIdx_of_lt
def abB:=@decide_eq_true_eq
def Kl:=@List.nodup_cons
def Db:=@List.mem_cons
def tw:=@List.not_mem_nil
def tz:=@or_false
def XD:=@Array.getElem?_setIfInBounds
abbrev O:=ByteArray
abbrev J:=World
abbrev gP:=Value
abbrev lu:=List (ByteArray×ByteArray)
abbrev kY:=List (Option Nat)
abbrev jj:=Option Nat
abbrev jL:=Array Value
@[simp,go_sem] abbrev kB:ByteArray:=⟨#[]⟩
@[simp,go_sem] abbrev y8:ByteArray:=⟨#[10]⟩
@[simp,go_sem] abbrev mW:ByteArray:=⟨#[100,100]⟩
@[simp,go_sem] abbrev kA:ByteArray:=⟨#[100,105,118]⟩
@[simp,go_sem] abbrev mX:ByteArray:=⟨#[100,116]⟩
@[simp,go_sem] abbrev iQ:ByteArray:=⟨#[102,111,114,109]⟩
@[simp,go_sem] abbrev fY:ByteArray:=⟨#[104,101,97,100]⟩
@[simp,go_sem] abbrev mY:ByteArray:=⟨#[104,105,100,100,101,110]⟩
@[simp,go_sem] abbrev qM:ByteArray:=⟨#[104,114]⟩
@[simp,go_sem] abbrev fN:ByteArray:=⟨#[104,116,109,108]⟩
@[simp,go_sem] abbrev nD:ByteArray:=⟨#[104,49]⟩
@[simp,go_sem] abbrev nE:ByteArray:=⟨#[104,50]⟩
@[simp,go_sem] abbrev oU:ByteArray:=⟨#[105,109,103]⟩
@[simp,go_sem] abbrev jd:ByteArray:=⟨#[105,110,112,117,116]⟩
@[simp,go_sem] abbrev lF:ByteArray:=⟨#[108,105]⟩
@[simp,go_sem] abbrev iB:ByteArray:=⟨#[109,101,116,97]⟩
@[simp,go_sem] abbrev pd:ByteArray:=⟨#[110,111,116,105,110,59]⟩
@[simp,go_sem] abbrev og:ByteArray:=⟨#[110,111,116,105,110,69,59]⟩
@[simp,go_sem] abbrev pg:ByteArray:=⟨#[110,111,116,110,105,59]⟩
@[simp,go_sem] abbrev iJ:ByteArray:=⟨#[110,111,98,114]⟩
@[simp,go_sem] abbrev gp:ByteArray:=⟨#[111,112,116,103,114,111,117,112]⟩
@[simp,go_sem] abbrev gL:ByteArray:=⟨#[111,112,116,105,111,110]⟩
@[simp,go_sem] abbrev ie:ByteArray:=⟨#[111,98,106,101,99,116]⟩
@[simp,go_sem] abbrev oh:ByteArray:=⟨#[112]⟩
@[simp,go_sem] abbrev iX:ByteArray:=⟨#[115,101,108,101,99,116]⟩
@[simp,go_sem] abbrev iE:ByteArray:=⟨#[115,116,121,108,101]⟩
@[simp,go_sem] abbrev ig:ByteArray:=⟨#[116,100]⟩
@[simp,go_sem] abbrev jP:ByteArray:=⟨#[116,101,120,116,97,114,101,97]⟩
@[simp,go_sem] abbrev fV:ByteArray:=⟨#[116,102,111,111,116]⟩
@[simp,go_sem] abbrev ij:ByteArray:=⟨#[116,104]⟩
@[simp,go_sem] abbrev fX:ByteArray:=⟨#[116,104,101,97,100]⟩
@[simp,go_sem] abbrev qN:ByteArray:=⟨#[116,105,109,101,115]⟩
@[simp,go_sem] abbrev oi:ByteArray:=⟨#[116,105,109,101,115,98,59]⟩
@[simp,go_sem] abbrev je:ByteArray:=⟨#[116,105,116,108,101]⟩
@[simp,go_sem] abbrev gN:ByteArray:=⟨#[116,114]⟩
@[simp,go_sem] abbrev oW:ByteArray:=⟨#[116,121,112,101]⟩
@[simp,go_sem] abbrev fQ:ByteArray:=⟨#[116,97,98,108,101]⟩
@[simp,go_sem] abbrev fW:ByteArray:=⟨#[116,98,111,100,121]⟩
@[simp,go_sem] abbrev pQ:ByteArray:=⟨#[117,108]⟩
@[simp,go_sem] abbrev ut:ByteArray:=⟨#[194,160]⟩
@[simp,go_sem] abbrev qO:ByteArray:=⟨#[226,139,185,204,184]⟩
@[simp,go_sem] abbrev nL:ByteArray:=⟨#[32,9,10,12]⟩
@[simp,go_sem] abbrev jn:ByteArray:=⟨#[32,9,10,12,47,62]⟩
@[simp,go_sem] abbrev qP:ByteArray:=⟨#[32,9,10,12,47,62,61]⟩
@[simp,go_sem] abbrev nF:ByteArray:=⟨#[32,9,10,12,62]⟩
@[simp,go_sem] abbrev mZ:ByteArray:=⟨#[33,100,111,99,116,121,112,101]⟩
@[simp,go_sem] abbrev qq:ByteArray:=⟨#[34]⟩
@[simp,go_sem] abbrev uG:ByteArray:=⟨#[35]⟩
@[simp,go_sem] abbrev vG:ByteArray:=⟨#[38]⟩
@[simp,go_sem] abbrev sM:ByteArray:=⟨#[38,103,116,59]⟩
@[simp,go_sem] abbrev my:ByteArray:=⟨#[38,108,116,59]⟩
@[simp,go_sem] abbrev ob:ByteArray:=⟨#[38,110,98,115,112,59]⟩
@[simp,go_sem] abbrev pR:ByteArray:=⟨#[38,113,117,111,116,59]⟩
@[simp,go_sem] abbrev kL:ByteArray:=⟨#[38,97,109,112,59]⟩
@[simp,go_sem] abbrev uH:ByteArray:=⟨#[39]⟩
@[simp,go_sem] abbrev pH:ByteArray:=⟨#[45,45,62]⟩
@[simp,go_sem] abbrev zZ:ByteArray:=⟨#[45,62]⟩
@[simp,go_sem] abbrev rG:ByteArray:=⟨#[60]⟩
@[simp,go_sem] abbrev nT:ByteArray:=⟨#[60,33,45,45]⟩
@[simp,go_sem] abbrev iR:ByteArray:=⟨#[60,33,68,79,67,84,89,80,69,32]⟩
@[simp,go_sem] abbrev qY:ByteArray:=⟨#[60,47]⟩
@[simp,go_sem] abbrev Aa:ByteArray:=⟨#[61,34]⟩
@[simp,go_sem] abbrev iZ:ByteArray:=⟨#[62]⟩
@[simp,go_sem] abbrev ng:ByteArray:=⟨#[78,101,119,76,105,110,101,59]⟩
@[simp,go_sem] abbrev uI:ByteArray:=⟨#[97]⟩
@[simp,go_sem] abbrev fR:ByteArray:=⟨#[98,111,100,121]⟩
@[simp,go_sem] abbrev jW:ByteArray:=⟨#[98,114]⟩
@[simp,go_sem] abbrev ik:ByteArray:=⟨#[98,117,116,116,111,110]⟩
@[simp,go_sem] abbrev gS:ByteArray:=⟨#[99,111,108]⟩
@[simp,go_sem] abbrev fS:ByteArray:=⟨#[99,111,108,103,114,111,117,112]⟩
@[simp,go_sem] abbrev oj:ByteArray:=⟨#[99,111,112,121,115,114,59]⟩
@[simp,go_sem] abbrev fZ:ByteArray:=⟨#[99,97,112,116,105,111,110]⟩
abbrev gI(b:Nat):Value:=.pointer (some ⟨b,0,none⟩)
abbrev j5(b k:Nat):Value:=.pointer (some ⟨b,k,none⟩)
abbrev G(n:Int):Value:=.int .i64 n
abbrev iA(v:Value):Ending:=.returned v
abbrev qs:Ending:=.returned (.tuple #[])
abbrev nX(b n c:Nat):Value:=.slice (some ⟨b,0,none⟩) n c
abbrev jD:Value:=.slice none 0 0
abbrev gH(c:Array Value)(t:TypeId):Obj:=.cells c t (0,0)
abbrev Y(s:ByteArray):Value:=.string s
section
variable {A B W W' a cw cw' w w' w0 w1:J}{C c:jL}{E K S:List Nat}{L:List (O×gP)}{T t tB:TypeId}{X:Nat->Prop}{ao:Option Addr}{gG:lu}{av kv u v v' v0 v1 v2 v3 v4 v5 v6 v7 v8 v9:gP}{b bB bD base bm bs cap e f g i j k l pf s sz:Nat}{cs:List gP}{name:O}{o:Obj}{p vd:O->Bool}{ji x:jj}{xs:kY}{z:Array Bool}
def V{p:Prop}(h:p):Hid p:=h
structure Z(S:List Nat)(w w':J):Prop where
 os:w'.os=w.os
 tape:w'.tape=w.tape
 output:w'.output=w.output
 size:w.heap.size<=w'.heap.size
 block:∀k,k<w.heap.size->k∉S->w'.heap[k]?=w.heap[k]?
theorem Z.refl(S:List Nat)(w:J):Z S w w:=⟨rfl,rfl,rfl,ic _,by grind⟩
theorem Z.trans{b c:J}(h:Z S a b)(k:Z S b c):Z S a c:=
 ⟨k.os.trans h.os,k.tape.trans h.tape,k.output.trans h.output,jZ h.size k.size,λi d m=>(k.block i (nr d h.size) m).trans (h.block i d m)⟩
theorem Z.mono{S':List Nat}(h:Z S w w')(hs:∀k,k∈S->k<w.heap.size->k∈S'):Z S' w w':=
 ⟨h.os,h.tape,h.output,h.size,λk d n=>h.block k d (λm=>n (hs k m d))⟩
theorem Z.next{S':List Nat}{b c:J}(h:Z S a b)(k:Z S' b c)(hs:∀x∈S',x∈S\/a.heap.size<=x):Z S a c:=
 ⟨k.os.trans h.os,k.tape.trans h.tape,k.output.trans h.output,jZ h.size k.size,λi d m=>(k.block i (nr d h.size) (λn=>by grind)).trans (h.block i d m)⟩
def Z.drew(h:Z S a w):Z S a w.drew:=⟨h.os,h.tape,h.output,h.size,h.block⟩
def Z.drewN(h:Z S a w)(q:Nat):Z S a (w.drewN q):=⟨h.os,h.tape,h.output,h.size,h.block⟩
theorem Z.alloc(h:Z S a w)(o:Obj):Z S a (w.alloc o):=
 ⟨h.os,h.tape,h.output,jZ h.size (by simp),λk d m=>(Below.heap_alloc w o k (nr d h.size)).trans (h.block k d m)⟩
theorem Z.setCell(h:Z S a w){p:Addr}(m:p.block∈S\/a.heap.size<=p.block)(u:gP):Z S a (w.setCell p u):=
 ⟨h.os,h.tape,h.output,by simpa using h.size,λk d n=>by
  grind[Below.heap_setCell,block]⟩
theorem Z.grown{m:jj}(h:Z S a w)(d:w.grownBy w' m)(y:∀k,m=some k->k∈S\/a.heap.size<=k):Z S a w':=
 ⟨d.os.trans h.os,d.tape.trans h.tape,d.output.trans h.output,jZ h.size d.size,λk n q=>by
  exact(d.block k (nr n h.size) (by grind)).trans (h.block k n q)⟩
theorem Z.below(h:Z S w w'){B:Nat}(d:B<=w.heap.size)(hs:∀k∈S,B<=k):Below B w w':=
 ⟨h.os,h.tape,h.output,h.size,λk m=>h.block k (nr m d) (λn=>by grind)⟩
theorem Z.cell(h:Z S w w'){p:Addr}(d:p.block<w.heap.size)(hs:p.block∉S):w'.cell? p=w.cell? p:=ahr (h.block _ d hs)
theorem Z.at(h:Z S w w')(d:w.heap[k]?=some o)(hs:k∉S):w'.heap[k]?=some o:=
 (h.block k (ja d) hs).trans d
theorem zB{a:Nat}{n cb:jL}{d m:TypeId}{q y:Nat×Nat}(D:w.heap[a]?=some (.cells n d q))(H:w.heap[b]?=some (.cells cb m y))(h:d≠m):a≠b:=by
 grind
theorem fU(w:J)(o:Obj):(w.alloc o).heap[w.heap.size]?=some o:=by
 show(w.heap.push o)[w.heap.size]?=some o;simp
theorem Z.ownsRow(h:Z S w w'){e:TypeId}{d:Nat}{n:Nat}{xs:List gP}(H:w.ownsRow base e d v n xs)(hs:∀k,v.ownBlock=some k->k∉S):w'.ownsRow base e d v n xs:=by
 have⟨h1,q⟩:=H;refine⟨h1,?_⟩;rcases q with q|⟨g,cap,m,rfl,y,D,I⟩;grind;exact .inr ⟨g,cap,m,rfl,y,(h.at D (hs g rfl)),I⟩
section
variable {P:Program}(w:J)
theorem ke{w:J}{base d:Nat}{e:TypeId}{m:Nat}{v:gP}{n:Nat}{xs:List gP}(h:w.ownsRow base e m v n xs)(D:d<=base):w.ownsRow d e m v n xs:=by
 have⟨h1,y⟩:=h;refine⟨h1,?_⟩;rcases y with y|⟨g,cap,q,rfl,H,I⟩;grind;exact .inr ⟨g,cap,q,rfl,jZ D H,I⟩
def R7{w w':J}{d:jj}(h:w.grownBy w' none):w.grownBy w' d:=⟨h.os,h.tape,h.output,h.size,λk m _=>h.block k m (by simp)⟩
def Bl(base:Nat)(t ty e:TypeId)(i:TypeInfo)(z:gP)(d I:Nat)(ht:P.underlying t=some (.slice e))(hi:P.info? e=some i)(hz:i.zero=some z)
  (D:i.size=d) (a2:i.bytes=I) (a4:z.cells.size=d) (a3:0<d)
  (v:gP) (n:Nat) (xs:List gP) (q:w.ownsRow base e d v n xs)
  (a:Addr) (m c:Nat) (h:List gP) (hl:h.length=m*d) (y:∀j u,h[j]?=some u->w.cell? (a.add j)=some u) (h1:∀u∈h,u.oneCell'=true)
  (a1:n+m<=maxLen) (H:(n+m)*I<=140737488355328) (U:base<=w.heap.size):
  ∃v' w',(Builtin.append_ #[t,t] ty #[v,.slice (some a) m c]).run P w=.ok v' w'/\w'.ownsRow base e d v' (n+m) (xs++h)/\w.grownBy w' v.ownBlock/\
   (v'.ownBlock=v.ownBlock\/∀k,v'.ownBlock=some k->w.heap.size<=k):=by
 rcases q.2 with⟨rfl,rfl⟩|⟨g,cap,a6,rfl,a7,hg,aa,a8,a9,a5⟩;have hx:=TE (by simpa using q.1);subst hx;have⟨v',w',hr,ho,hgr,_⟩:=run_append_own w _ t ty e i z d _ ht hi hz D a2 a4 a3 _ 0 [] (pP _ _ _ _) a m c h hl y h1 a1 H (ic _);exact⟨v',w',hr,ke ho U,hgr,.inr λk hk=>(ho.lt k hk).1⟩;by_cases a0:n+m<=cap;have⟨w',hr,ho,hgr⟩:=run_append_fits w base t ty e i d ht hi D g n cap xs q a m c h hl y h1 a0;exact⟨_,w',hr,ho,hgr,.inl rfl⟩;have⟨v',w',hr,ho,hgr⟩:=run_append_arg_grows w t ty e i z d _ ht hi hz D a2 a4 a3 _ n cap xs q.1 (q.cells rfl) a m c h hl y (by omega) a1 H;exact⟨v',w',hr,ke ho U,R7 hgr,.inr λk hk=>(ho.lt k hk).1⟩
def jB{ops:Array Oper}{rest:List Oper}{o:Oper}{a:Act}{Q:Exit->Act->J->Prop}(a3:o.guard=none)(s x:Operand)(t:TypeId)
  (ho:o.op=.call {callee:=.builtin .append,args:=#[s,x],argTypes:=#[t,t]})
  (base:Nat) (e:TypeId) (i:TypeInfo) (z:gP) (d y:Nat) (ht:P.underlying t=some (.slice e)) (hi:P.info? e=some i) (hz:i.zero=some z)
  (U:i.size=d) (a2:i.bytes=y) (a5:z.cells.size=d) (a4:0<d)
  (v:gP) (n:Nat) (xs:List gP) (hs:a.eval s=v) (a0:w.ownsRow base e d v n xs)
  (ad:Addr) (m c:Nat) (q:List gP) (hx:a.eval x=.slice (some ad) m c) (hl:q.length=m*d) (I:∀j u,q[j]?=some u->w.cell? (ad.add j)=some u) (h1:∀u∈q,u.oneCell'=true)
  (a1:n+m<=maxLen) (D:(n+m)*y<=140737488355328) (H:base<=w.heap.size)
  (h:∀v' w',w'.ownsRow base e d v' (n+m) (xs++q)->w.grownBy w' v.ownBlock->(v'.ownBlock=v.ownBlock\/∀k,v'.ownBlock=some k->w.heap.size<=k)->wpList P ops Q rest (a.put o.dst v') w'):wpList P ops Q (o::rest) a w:=by
 refine wpList_plain a3 λ_ hK=>?_;have⟨v',w',hr,h2,h3,h4⟩:=Bl w base t o.type e i z d _ ht hi hz U a2 a5 a4 v n xs a0 ad m c q hl I h1 a1 D H;unfold Oper.wp execOp;simp[ho,resolve,invoke,builtin,hs,hx,hr];exact hK _ _ (h v' w' h2 h3 h4)
end
def lx(s:O):List gP:=s.data.toList.map λb=>Value.int .u8 b.toNat
def ahA(s:O):(lx s).length=s.size:=by
 simp[lx]
def Ob(s t:O):lx (s++t)=lx s++lx t:=by
 simp[lx]
theorem XU(s:O):∀u∈lx s,u.oneCell'=true:=by
 intro u d;simp[lx]at d;obtain⟨b,_,rfl⟩:=d;rfl
def fP(h:w.heap[b]?=some (gH c t))(j:Nat):w.cell? ⟨b,j,none⟩=c[j]?:=by simp[World.cell?,h]
theorem gx(h:w.heap[b]?=some (gH c t))(j:Nat):w.frozen? ⟨b,j,none⟩=false:=by simp[World.frozen?,h]
theorem gh(h:w.heap[b]?=some (gH c t))(j:Nat)(u:gP):(w.setCell ⟨b,j,none⟩ u).heap[b]?=some (gH (c.setIfInBounds j u) t):=by
 simp[World.setCell];grind
theorem gz{e:TypeId}{d:Nat}{n:Nat}{xs:List gP}(m:w.ownsRow base e d v n xs):∃ao cap,v=.slice ao n cap:=by
 rcases m.2 with⟨rfl,q⟩|⟨g,cap,h,rfl,_⟩
 all_goals grind
theorem js(g j:Nat):(⟨g,0,none⟩:Addr).add j=⟨g,j,none⟩:=by unfold Addr.add;grind
def ptr(x:jj):Option Addr:=x.map λk=>⟨k,0,none⟩
abbrev kX(x:jj):gP:=.pointer (ptr x)
def iC(xs:kY)(n:Int):jj:=if 0<=n/\n<xs.length then xs.getD n.toNat none else none
structure yM(base b j:Nat)(tB:TypeId)(C:jL)(v:gP)(xs:kY)(w:J):Prop where
 il:w.heap[b]?=some (gH C tB)
 cell:C[j]?=some v
 row:w.ownsRow base 66 1 v xs.length (xs.map kX)
 ne:tB≠66
 le:xs.length<=4096
theorem yM.at(h:yM base b j tB C v xs w):w.cell? ⟨b,j,none⟩=some v:=by rw[fP h.il];exact h.cell
def akE(base b j:Nat)(tB:TypeId)(C:jL)(v:gP)(xs:kY)(w:J)(h:yM base b j tB C v xs w):
  Calls prog 260 #[j5 b j] w λe w'=>e=iA (G xs.length)/\w'=w:=by
 have d:=h.at;obtain⟨ao,cap,rfl⟩:=gz h.row;clear h;go_enter func260,ntmps260;go_wp2;go_ret;simp
theorem afU(base b j:Nat)(tB:TypeId)(C:jL)(v:gP)(xs:kY)(n:Int)(w:J)(h:yM base b j tB C v xs w):
  Calls prog 239 #[j5 b j,G n] w λe w'=>e=iA (kX (iC xs n))/\w'=w:=by
 have U:=h.at;have H:=h.le;by_cases h0:n<0
 .obtain⟨ao,cap,rfl⟩:=gz h.row;have q:iC xs n=none:=by unfold iC;rw[Xx (by omega)]
  rw[q];go_enter func239,ntmps239;go_wp2;go_ret;exact⟨rfl,rfl⟩
 by_cases h1:(xs.length:Int)<=n
 .obtain⟨ao,cap,rfl⟩:=gz h.row;have q:iC xs n=none:=by unfold iC;rw[Xx (by omega)]
  rw[q];go_enter func239,ntmps239;go_wp2;go_ret;exact⟨rfl,rfl⟩
 obtain⟨k,rfl⟩:∃k:Nat,n=k:=⟨n.toNat,by omega⟩;have D:k<xs.length:=by omega
 have q:iC xs k=xs[k]:=by unfold iC;rw[sL (by omega)];simp[D]
 rw[q];rcases h.row.2 with⟨_,e0⟩|⟨g,cap,y,rfl,_,m,I,_,_,d⟩;omega;have c2:w.cell? ⟨g,k,none⟩=some (kX xs[k]):=by
  rw[fP m];have:(y.toList.take (xs.length*1))[k]?=some (kX xs[k]):=by rw[d];simp[D]
  rw[gM]at this;split at this;grind;omega
 go_enter func239,ntmps239;go_wp2;go_ret;simp
def posOf(xs:kY)(x:jj):Int:=if xs.idxOf x<xs.length then (xs.idxOf x:Int)else -1
def vy(w:J)(x:jj):Prop:=∀k,x=some k->∃c,w.heap[k]?=some (gH c 136)
def aaq:(prog.info? 136).map (·.size)=some 4:=by kernel_rfl
def L5:prog.underlying 66=some (.pointer (prog.pointee 66)):=by kernel_rfl
theorem Ek{y:jj}(q:vy w x)(D:vy w y):
  (binOp .eql 66 (.pointer (ptr x)) (.pointer (ptr y))).run prog w=.ok (.bool (decide (x=y))) w:=by
 obtain⟨j,m,n⟩:=Option.map_eq_some_iff.1 aaq;cases x with
 |none=>
  cases y with
  |none=>exact run_eql_pointer_nil (P:=prog) w 66 none L5
  |some b=>
   have h:∀d:Nat,(Op.equalIn (d+1) 66 (.pointer none) (gI b)).run prog w=.ok false w:=λd=>by
    simp[Op.equalIn,gy underlying66]
   show(binOp .eql 66 (.pointer none) (gI b)).run prog w=.ok (.bool false) w;simp only[binOp];simp[Op.equal,Op.maxDepth,h 9999]
 |some a=>
  cases y with
  |none=>exact run_eql_pointer_nil (P:=prog) w 66 (some ⟨a,0,none⟩) L5
  |some b=>
   by_cases h:a=b;subst h;rw[Hl rfl];exact run_eql_ptr_same (P:=prog) w (⟨a,0,none⟩:Addr) underlying66 m;have⟨ca,ha⟩:=q a rfl;have⟨cb,hb⟩:=D b rfl;rw[qW (by grind)];exact run_eql_ptr_other (P:=prog) w underlying66 m (by omega) (by simp) ha hb
def ak3(v:gP)(xs:kY)(w:J):Prop:=((xs=[]/\∃ao cap,v=.slice ao 0 cap)\/∃g cap,v=nX g xs.length cap/\∀k,(hk:k<xs.length)->w.cell? ⟨g,k,none⟩=some (kX xs[k]))/\∀x∈xs,vy w x
theorem ais(y:w.ownsRow base 66 1 v xs.length (xs.map kX))(n:∀x∈xs,vy w x):ak3 v xs w:=by
 refine⟨?_,n⟩;rcases y.2 with⟨rfl,D⟩|⟨g,cap,h,rfl,_,d,q,_,_,m⟩;grind;refine .inr ⟨g,cap,rfl,λk H=>?_⟩;rw[fP d];have:(h.toList.take (xs.length*1))[k]?=some (kX xs[k]):=by grind
 grind
theorem agB(n:k<xs.length)(D:xs[k]=x)(h:∀j,j<k->xs[j]?≠some x):posOf xs x=k:=by
 have H:xs.idxOf x=k:=by
  have y:=List.idxOf_lt_length_iff.2 (D▸wK n);have m:¬xs.idxOf x<k:=λd=>h _ d (by grind);have q:¬k<xs.idxOf x:=λd=>by
   have:=List.not_of_lt_findIdx (p:=(·==x)) (xs:=xs) (i:=k) (by simpa [List.idxOf]using d);grind
  omega
 grind[posOf]
theorem agC(d:∀j,j<xs.length->xs[j]?≠some x):posOf xs x= -1:=by
 grind[posOf]
theorem Iv(v:gP)(xs:kY)(x:jj)(w:J)(h:ak3 v xs w)(q:vy w x)(a1:xs.length<=4096):
  Calls prog 263 #[v,kX x] w λe w'=>e=iA (G (posOf xs x))/\w'=w:=by
 rcases h with⟨⟨rfl,ao,cap,rfl⟩|⟨g,cap,rfl,I⟩,HE⟩
 .go_enter func263,ntmps263;go_wp2;refine yB 1 ?_;rw[uE];go_wp2;go_ret;simp[posOf]
 .have HC:=I;have HX:=q;clear I q;have n:∀k,(y:k<xs.length)->(binOp .eql 66 (.pointer (ptr x)) (.pointer (ptr xs[k]))).run prog w=.ok (.bool (decide (x=xs[k]))) w:=λk y=>Ek HX (HE _ (wK y));have HQ:=V n;clear n;go_enter func263,ntmps263;go_wp2
  go_loopw [8] (λi wr=>∃k:Nat,k<=xs.length/\i=G k/\wr=w/\∀j,j<k->xs[j]?≠some x) (λi _=>xs.length-(intOf i).toNat)
  case atStart=>grind
  case round=>
   obtain⟨k,y,rfl,rfl,H⟩:=hrel;by_cases d:k<xs.length
   .have c2:=HC k d;have U:=HQ k d;by_cases m:x=xs[k]
    .have D:=V (agB d m.symm H);rw[Hl m]at U;clear m;go_wp2;go_ret;exact⟨by rw[D.out];rfl,rfl⟩
    .rw[qW m]at U;have a0:=m;clear m;go_wp2;go_roundw
     case rel=>
      refine⟨k+1,by omega,by go_num,by simp,λj hj=>?_⟩;grind
     case measure=>simp[intOf];omega
   .have D:=V (agC (xs:=xs) (x:=x) (λj hj=>H j (by omega)));go_wp2;go_ret;exact⟨by rw[D.out];rfl,rfl⟩
def jz:jL->Nat->List gP->jL
 |c,_,[]=>c
 |c,o,v::r=>jz (c.setIfInBounds o v) (o+1) r
theorem jE:∀(d:List gP)(c:jL)(o:Nat),(jz c o d).size=c.size
 |[],_,_=>rfl
 |v::r,c,o=>by rw[jz,jE r];simp
theorem li:∀(d:List gP)(c:jL)(o:Nat),o+d.length<=c.size->(jz c o d).toList=c.toList.take o++d++c.toList.drop (o+d.length)
 |[],c,o,_=>by simp[jz]
 |v::r,c,o,h=>by
  rw[jz,li r _ _ (by grind)];grind[List.take_succ_eq_append_getElem,List.take_set_of_le,List.drop_set_of_lt]
theorem la:∀(d:List gP)(w:J)(g:Nat)(c:jL)(t:TypeId)(m:Nat×Nat)(o:Nat),w.heap[g]?=some (.cells c t m)->(w.setCells g o d).heap[g]?=some (.cells (jz c o d) t m)
 |[],_,_,_,_,_,_,h=>h
 |v::r,w,g,c,t,m,o,h=>by
  refine la r _ g _ t m _ ?_;simp[World.setCell];grind
def Z.setCells(d:b∈S\/a.heap.size<=b):∀(m:List gP)(o:Nat){w:J},Z S a w->Z S a (w.setCells b o m)
 |[],_,_,h=>h
 |v::r,o,w,h=>by exact Z.setCells d r _ (h.setCell d v)
def aiF:(prog.info? 66).map (λi=>(i.zero,i.size,i.bytes))=some (some (.pointer none),1,8):=by kernel_rfl
theorem aeW{l:List gP}{n:Nat}(d:i<j)(h:j<=n)(m:n<=l.length):
  ((l.take i++(l.take n).drop j++l.drop (i+(n-j))).take (n-(j-i)))=(l.take n).take i++(l.take n).drop j:=by
 grind[List.length_take]
theorem alA(g cap i j n:Nat)(m:jL)(w:J)(y:w.heap[g]?=some (gH m 66))(ab:n<=cap)(ac:m.size=cap)(hi:i<j)(hj:j<=n)(aa:n<=4096)
  (h1:∀u∈m.toList.take n,u.oneCell'=true):
  Calls prog 264 #[nX g n cap,G i,G j] w λe w'=>e=iA (nX g (n-(j-i)) cap)/\
   ∃D,w'.heap[g]?=some (gH D 66)/\D.size=cap/\D.toList.take (n-(j-i))=(m.toList.take n).take i++(m.toList.take n).drop j/\Z [g] w w':=by
 obtain⟨i0,a4,ad,a6,ae⟩:=qz aiF;obtain⟨d,q⟩:∃d,d=(m.toList.take n).drop j:=⟨_,rfl⟩;have H:d.length=n-j:=by rw[q];simp;omega
 have a1:∀t u,d[t]?=some u->m[j+t]?=some u:=by
  intro t u hu;rw[q,sQ,gM]at hu;split at hu;grind;cases hu
 obtain⟨A,hA,a2⟩:∃A:Addr,(if cap=j then some (⟨g,0,none⟩:Addr)else some ⟨g,j,none⟩)=some A/\Hid (∀t u,d[t]?=some u->w.drew.cell? (A.add t)=some u):=by
  by_cases h:cap=j;refine⟨⟨g,0,none⟩,by simp[h],λt u hu=>?_⟩;grind;refine⟨⟨g,j,none⟩,by simp[h],λt u hu=>?_⟩;rw[show(⟨g,j,none⟩:Addr).add t=⟨g,j+t,none⟩from by unfold Addr.add;simp];exact(fP y _).trans (a1 t u hu)
 have s1:Hid (d.length=(n-j)*1):=by rw[ahq];exact H
 have s2:Hid (∀u∈d,u.oneCell'=true):=λu hu=>h1 u (yC (q▸hu));have s3:Hid (∀t,t<d.length->(w.drew.cell? ⟨g,0+i*1+t,none⟩).isSome=true/\w.drew.frozen? ⟨g,0+i*1+t,none⟩=false):=by
  intro t ht;rw[H]at ht;refine⟨?_,gx y _⟩;show(w.cell? _).isSome=true;rw[fP y,jC (by omega)];rfl
 obtain⟨U,I⟩:∃U,U=w.drew.setCells g (0+i*1) d:=⟨_,rfl⟩;have a0:U.heap[g]?=some (gH (jz m (0+i*1) d) 66):=by rw[I];exact la d w.drew g m _ _ _ y
 have a3:Z [g] w U:=by rw[I];exact Z.setCells (.inl (by simp)) d _ (Z.refl _ _).drew
 have a7:∀ty,(Builtin.clear_ #[170] ty #[.slice (some ⟨g,i+(n-j),none⟩) (n-(i+(n-j))) (cap-(i+(n-j)))]).run prog U=.ok (.tuple #[]) (U.setCells g (i+(n-j)) (List.replicate (n-(i+(n-j))) (.pointer none))):=
  λty=>Lib.run_clear_slice U _ _ ty _ underlying170 Tryz.zeroValue66 rfl rfl g (i+(n-j)) _ _ (by omega) (λt ht=>by rw[fP a0,jC (by grind[jE])];rfl) (λt ht=>gx a0 _)
 have HB:=la (List.replicate (n-(i+(n-j))) (Value.pointer none)) U g _ _ _ (i+(n-j)) a0;have HK:=Z.setCells (S:=[g]) (a:=w) (b:=g) (.inl (by simp)) (List.replicate (n-(i+(n-j))) (Value.pointer none)) (i+(n-j)) a3;have a5:=li (List.replicate (n-(i+(n-j))) (Value.pointer none)) (jz m (0+i*1) d) (i+(n-j)) (by grind[jE]);have HF:(jz (jz m (0+i*1) d) (i+(n-j)) (List.replicate (n-(i+(n-j))) (Value.pointer none))).toList.take (n-(j-i))=(m.toList.take n).take i++(m.toList.take n).drop j:=by
  rw[a5,vu,abt (by simp[jE];omega),(li _ _ _ (by omega)),H,q];rw[Hn,NY (by omega)];have:=aeW (l:=m.toList) hi hj (by grind)
  simpa using this
 have HW:=V I;have a8:i<=cap:=by omega
 have a9:j<=cap:=by omega
 clear I;go_enter func264,ntmps264;go_wp2_with fail
 go_region_law (refine step_append_room rfl (.tmp 22) (.tmp 25) 170 rfl 66 i0 1 underlying170 a4 a6 g 0 i cap (by simp[Act.eval,Act.put]) A (n-j) (cap-j) d (by simp[Act.eval,Act.put]) s1 a2 s2 (by omega) s3 ?_;rw[<-HW.out])
 go_wp2;go_ret;exact⟨by rw[show n-(j-i)=i+(n-j) by omega];rfl,_,HB,by grind[jE],HF,HK⟩
def alR:(prog.info? 66).map (λi=>(i.zero,i.size,i.bytes))=some (some (.pointer none),1,8):=by kernel_rfl
def IK(T S F O0 B:Nat)(z:gP):Prop:=(T=66/\S=170/\F=378/\O0=380/\B=8/\z=.pointer none)\/(T=138/\S=134/\F=257/\O0=310/\B=16/\z=.nilIface)
section
variable {T S F O0 B:Nat}{z:gP}
def IK.afE(K:IK T S F O0 B z):(prog.info? T).map (λi=>(i.zero,i.size,i.bytes))=some (some z,1,B)/\prog.underlying S=some (.slice T)/\(prog.info? T).map (·.size)=some 1/\(∀w,(sizeOf T).run prog w=.ok 1 w)/\∀a w,(callFunc O0 a).run prog w=((Extern.SlicesOverlaps.overlaps #[S,S] #[4] a).run prog w).andThen λv w'=> .ok (.value v) w':=by
 rcases K with⟨rfl,rfl,rfl,rfl,rfl,rfl⟩|⟨rfl,rfl,rfl,rfl,rfl,rfl⟩;exact⟨by kernel_rfl,underlying170,by kernel_rfl,Tryz.sizeOf66,vw func380 (by kernel_rfl) (by kernel_rfl) (by kernel_rfl) (by kernel_rfl)⟩;exact⟨by kernel_rfl,underlying134,by kernel_rfl,Tryz.sizeOf138,vw func310 (by kernel_rfl) (by kernel_rfl) (by kernel_rfl) (by kernel_rfl)⟩
def ad9(T base:Nat)(v:gP)(n i:Nat)(xs:List gP)(u:gP)(w:J)(e:Ending)(w':J):Prop:=
 ∃v',e=iA v'/\w'.ownsRow base T 1 v' (n+1) (xs.take i++[u]++xs.drop i)/\Z v.ownBlock.toList w w'/\(v'.ownBlock=v.ownBlock\/∀k,v'.ownBlock=some k->w.heap.size<=k)
theorem acK(K:IK T S F O0 B z)(base n U:Nat)(v u:gP)(xs:List gP)(w:J)(m:w.ownsRow base T 1 v n xs)(hv:w.heap[U]?=some (gH #[u] T))(hu:u.oneCell'=true)(a2:n<=1048576)(hb:base<=w.heap.size):
  Calls prog F #[v,G n,nX U 1 1] w (ad9 T base v n n xs u w):=by
 obtain⟨i0,hi,D,H,I⟩:=qz K.afE.1;have HU:=K.afE.2.1;obtain⟨ao,cap,rfl⟩:=gz m;have a1:xs.length=n:=by have:=m.1;omega
 have HV:=V hv;clear hv;rcases K with⟨rfl,rfl,rfl,rfl,rfl,rfl⟩|⟨rfl,rfl,rfl,rfl,rfl,rfl⟩
 all_goals
  by_cases a0:cap=n;subst a0;have HO:=V m;clear m
  first|go_enter func378,ntmps378|go_enter func257,ntmps257
  go_wp2_with (at_builtin;refine jB _ rfl _ _ _ rfl base _ i0 _ 1 _ HU hi D H I rfl (by decide) (.slice ao cap cap) cap xs rfl HO ⟨U,0,none⟩ 1 1 [u] rfl rfl (λj x y=>by rw[js,fP HV.out,<-y];simp) (λx y=>by grind) (by unfold maxLen;omega) (by omega) hb ?_;intro v' w2 h d q);have HG:=(Z.refl (Value.slice ao cap cap).ownBlock.toList w).grown d (λk hk=> .inl (by grind))
  rotate_left
  have HO:=V m;clear m
  first|go_enter func378,ntmps378|go_enter func257,ntmps257
  go_wp2_with (at_builtin;refine jB _ rfl _ _ _ rfl base _ i0 _ 1 _ HU hi D H I rfl (by decide) (.slice ao n cap) n xs rfl HO ⟨U,0,none⟩ 1 1 [u] rfl rfl (λj x y=>by rw[js,fP HV.out,<-y];simp) (λx y=>by grind) (by unfold maxLen;omega) (by omega) hb ?_;intro v' w2 h d q);have HG:=(Z.refl (Value.slice ao n cap).ownBlock.toList w).grown d (λk hk=> .inl (by grind))
  all_goals
   have HN:=h;have HF:=q;go_wp2;go_ret;refine⟨_,rfl,?_,HG,HF⟩;rw[NZ (by omega),QT (by omega),Xt];exact HN
theorem YQ{l:List gP}{n i:Nat}{u:gP}{c:jL}(d:c.toList.take n=l)(y:n+1<=c.size)(q:i<n):
  (jz (jz c (i+1) (l.drop i)) i [u]).toList.take (n+1)=l.take i++[u]++l.drop i:=by
 have m:l.length=n:=by rw[<-d];simp;omega
 have h:=li (l.drop i) c (i+1) (by grind);rw[li [u] _ i (by rw[jE];grind),h];have e1:(c.toList.take (i+1)++l.drop i++c.toList.drop (i+1+(l.drop i).length)).take i=l.take i:=by
  rw[vu,abt (by grind),Hn,NY (by omega),<-d,Hn,NY (by omega)]
 have e2:(c.toList.take (i+1)++l.drop i++c.toList.drop (i+1+(l.drop i).length)).drop (i+[u].length)=l.drop i++c.toList.drop (i+1+(l.drop i).length):=by
  rw[vu,List.drop_append_of_le_length (by grind),QT (by grind),abu]
 rw[e1,e2,<-vu,abt (by grind),NZ (by grind)]
theorem Ve(K:IK T S F O0 B z)(base g cap n i D:Nat)(u:gP)(h:jL)(xs:List gP)(w:J)(a7:base<=g)(d:w.heap[g]?=some (gH h T))(a0:h.toList.take n=xs)(ac:h.size=cap)(hm:cap<=maxLen)
  (ab:n+1<=cap) (hi:i<n) (hv:w.heap[D]?=some (gH #[u] T)) (a9:D≠g) (hu:u.oneCell'=true) (h1:∀x∈xs,x.oneCell'=true) (ai:n<=1048576):
  Calls prog F #[nX g n cap,G i,nX D 1 1] w (ad9 T base (nX g n cap) n i xs u w):=by
 have a4:xs.length=n:=by rw[<-a0];simp;omega
 obtain⟨_,HU,a6,HZ,HP⟩:=K.afE;have aa:∀lb cb,(callFunc O0 #[nX D 1 1,.slice (some ⟨g,i+1,none⟩) lb cb]).run prog w=.ok (.value (.bool false)) w:=λlb cb=>by
  rw[HP,Lib.run_overlaps_apart w S 4 T HU 1 HZ ⟨D,0,none⟩ ⟨g,i+1,none⟩ 1 1 lb cb a9 T T 1 cap (by simp[World.shape?,hv]) (by simp[World.shape?,d,ac]) (by omega) (gx hv 0) (gx hv 1)];rfl
 have a5:∀j,j<cap->(w.cell? ⟨g,j,none⟩).isSome=true:=λj H=>by rw[fP d,jC (by omega)];rfl
 have a8:∀j x,xs[j]?=some x->w.cell? ⟨g,j,none⟩=some x:=λj x H=>by
  rw[fP d];grind
 have ah:(xs.drop i).length=n-i:=by rw[List.length_drop,a4]
 obtain⟨m,y⟩:∃m,m=w.drew.setCells g (i+1) (xs.drop i):=⟨_,rfl⟩;have a2:∀ty I sc,(Builtin.copy_ #[S,S] ty #[.slice (some ⟨g,i+1,none⟩) (n-i) I,.slice (some ⟨g,i,none⟩) (n+1-i) sc]).run prog w.drew=.ok (goInt (xs.drop i).length) m:=λty I sc=>by
  rw[y];exact C7 w.drew _ _ ty T g (i+1) (n-i) I ⟨g,i,none⟩ (n+1-i) sc (xs.drop i) HU a6 (by grind)
   (λj x H=>by rw[Addr.add_lit];simp_all)
   (λj H=>a5 _ (by omega)) (λj H=>gx d _) (λx hx=>h1 x (yC hx))
 have q:m.heap[g]?=some (gH (jz h (i+1) (xs.drop i)) T):=by rw[y];exact la (xs.drop i) w.drew g h _ _ _ d
 have U:Z [g] w m:=by rw[y];exact Z.setCells (.inl (by simp)) _ _ (Z.refl _ _).drew
 have a1:m.heap[D]?=some (gH #[u] T):=U.at hv (by grind);have a3:∀ty I,(Builtin.copy_ #[S,S] ty #[.slice (some ⟨g,i,none⟩) (n+1-i) I,nX D 1 1]).run prog m=.ok (goInt 1) (m.setCells g i [u]):=λty I=>
  C7 m _ _ ty T g i (n+1-i) I ⟨D,0,none⟩ 1 1 [u] HU a6 (by grind)
   (λj x H=>by rw[js,fP a1,<-H];simp)
   (λj H=>by rw[fP q,jC (by rw[jE];grind)];rfl) (λj H=>gx q _) (λx hx=>by grind)
 have HB:=la [u] m g _ _ _ i q;have HK:=Z.setCells (S:=[g]) (a:=w) (b:=g) (.inl (by simp)) [u] i U;have HF:=YQ (u:=u) a0 (by omega:n+1<=h.size) hi;clear q U y d hv a1 h1 a5 a8 a0;have ak:IntKind.i64.wrap ((i:Int)+1)=(i:Int)+1:=by rw[IntKind.wrap_i64];omega
 have lV:(0:Int)<=(i:Int)+1:=by omega
 have ad:(i:Int)+1<=(n:Int)+1:=by omega
 have aj:((i:Int)+1).toNat=i+1:=by omega
 have ae:(i:Int)<=(n:Int)+1:=by omega
 have af:¬(cap=i+1):=by omega
 have ag:¬(cap=i):=by omega
 rcases K with⟨rfl,rfl,rfl,rfl,rfl,rfl⟩|⟨rfl,rfl,rfl,rfl,rfl,rfl⟩
 all_goals
  first|go_enter func378,ntmps378|go_enter func257,ntmps257
  go_wp2_with (simp only[aa])
  go_region_law (refine step_copy_runI rfl _ _ _ _ rfl _ _ (by simp[Act.eval,Act.put]) (by simp[Act.eval,Act.put]) (a2 _ _ _) ?_)
  go_wp2_with (at_builtin;refine wpList_copy_runI _ rfl _ _ _ _ rfl _ _ rfl rfl (a3 _ _) ?_);go_ret;exact⟨_,rfl,⟨by grind,.inr ⟨g,cap,_,rfl,a7,HB,by omega,hm,by rw[jE,jE];omega,by grind⟩⟩,HK,.inl rfl⟩
theorem Vd{l:List gP}{n i:Nat}{u:gP}{R:jL}(q:l.length=n)(m:R.toList.take i=l.take i)(D:n+1<=R.size)(y:i<n):
  (jz (jz R i [u]) (i+1) (l.drop i)).toList.take (n+1)=l.take i++[u]++l.drop i:=by
 have h:=li [u] R i (by grind);rw[li (l.drop i) _ (i+1) (by grind[jz]),h,m];have d:∀X:List gP,(l.take i++[u]++X).take (i+1)=l.take i++[u]:=λX=>by grind
 rw[d,abt (by grind),NZ (by grind)]
theorem YP(K:IK T S F O0 B z)(base g cap n i bv:Nat)(u:gP)(a1:jL)(xs:List gP)(w:J)(d:w.heap[g]?=some (gH a1 T))(ab:a1.toList.take n=xs)(az:a1.size=cap)
  (ay:n<=cap) (aj:cap<n+1) (hi:i<n) (hv:w.heap[bv]?=some (gH #[u] T)) (hu:u.oneCell'=true) (h1:∀x∈xs,x.oneCell'=true) (ax:n<=1048576) (hb:base<=w.heap.size):
  Calls prog F #[nX g n cap,G i,nX bv 1 1] w (ad9 T base (nX g n cap) n i xs u w):=by
 obtain⟨i0,ai,al,am,ad⟩:=qz K.afE.1;obtain rfl:cap=n:=by omega
 have aa:xs.length=cap:=by rw[<-ab];simp;omega
 obtain⟨_,HU,ac,HZ,HP⟩:=K.afE;have aw:=ja d;have aB:=ja hv;have a9:∀j x,xs[j]?=some x->w.cell? ⟨g,j,none⟩=some x:=λj x hj=>by
  rw[fP d];grind
 have a0:(Builtin.firstCells i0.size i (nX g i cap)).run prog w.drew=.ok (xs.take i).toArray w.drew:=by
  rw[am];exact run_firstCells_some w.drew 1 i ⟨g,0,none⟩ i cap (xs.take i) (by grind) (λj x hj=>by
   rw[js];rw[gM]at hj;simp_all)
 obtain⟨Gw,hG⟩:∃Gw,Gw=grownCap w (cap+1) cap T:=⟨_,rfl⟩;obtain⟨R,hR⟩:∃R:jL,R=(xs.take i).toArray++Builtin.zeroCells z.cells (cap+1-i)++Builtin.zeroCells z.cells (Gw-(cap+1)):=⟨_,rfl⟩;obtain⟨y,a3⟩:∃y,y=w.drew.alloc (gH R T):=⟨_,rfl⟩;have ak:∀m,(Builtin.append_ #[S,3] m #[nX g i cap,G ((cap:Int)+1-(i:Int))]).run prog w=.ok (nX w.heap.size (cap+1) Gw) y:=λm=>by
  have h:=Lib.run_append_grow_zeros w S 3 m T i0 _ .i64 .i64 HU underlying3 ai al (some ⟨g,0,none⟩) i cap (xs.take i) a0 (cap+1-i) (by omega) (by omega) (by omega) (by omega) (by rw[ad];rcases K with⟨_,_,_,_,rfl,_⟩|⟨_,_,_,_,rfl,_⟩<;>omega) (by rw[ad,show i+(cap+1-i)=cap+1 by omega];rcases K with⟨_,_,_,_,rfl,_⟩|⟨_,_,_,_,rfl,_⟩<;>exact growslice_fits (by omega) (by omega));grind
 have ah:cap+1<=Gw:=by rw[hG];exact grownCap_ge w _ _ _
 have ae:Gw<=maxLen:=by rw[hG];exact grownCap_le_maxLen w (cap+1) cap T (by unfold maxLen;omega)
 have af:R.size=Gw:=by
  rw[hR];rcases K with⟨_,_,_,_,_,rfl⟩|⟨_,_,_,_,_,rfl⟩<;>simp[Builtin.zeroCells,Value.cells]<;>omega
 have a5:R.toList.take i=xs.take i:=by
  rw[hR];simp only[Array.toList_append,vu];rw[abt (by grind),NZ (by grind)]
 have D:y.heap[w.heap.size]?=some (gH R T):=by rw[a3];exact fU w.drew _
 have I:Z [] w y:=by rw[a3];exact(Z.refl [] w).drew.alloc _
 have a6:=I.at hv (by simp);have ag:=I.at d (by simp);obtain⟨q,U⟩:∃q,q=y.setCells w.heap.size i [u]:=⟨_,rfl⟩;have a7:∀m dc,(Builtin.copy_ #[S,S] m #[.slice (some ⟨w.heap.size,i,none⟩) (cap+1-i) dc,nX bv 1 1]).run prog y=.ok (goInt 1) q:=λm dc=>by
  rw[U];exact C7 y _ _ m T w.heap.size i (cap+1-i) dc ⟨bv,0,none⟩ 1 1 [u] HU ac (by grind)
   (λj x hj=>by rw[js,fP a6,<-hj];simp)
   (λj hj=>by rw[fP D,jC (by grind)];rfl) (λj hj=>gx D _) (λx hx=>by grind)
 have H:q.heap[w.heap.size]?=some (gH (jz R i [u]) T):=by rw[U];exact la [u] y _ R _ _ _ D
 have a2:Z [] w q:=by rw[U];exact Z.setCells (.inr (ic _)) _ _ I
 have a4:=a2.at d (by simp);have a8:∀m dc sc,(Builtin.copy_ #[S,S] m #[.slice (some ⟨w.heap.size,i+1,none⟩) (cap-i) dc,.slice (some ⟨g,i,none⟩) (cap-i) sc]).run prog q.drew=.ok (goInt (xs.drop i).length) (q.drew.setCells w.heap.size (i+1) (xs.drop i)):=λm dc sc=>
  C7 q.drew _ _ m T w.heap.size (i+1) (cap-i) dc ⟨g,i,none⟩ (cap-i) sc (xs.drop i) HU ac (by grind)
   (λj x hj=>by
    rw[Addr.add_lit];have h3:=a9 (i+j) x (by grind);rw[fP d]at h3;exact(fP a4 _).trans h3)
   (λj hj=>by show(q.cell? _).isSome=true;rw[fP H,jC (by grind[jz])];rfl) (λj hj=>gx H _) (λx hx=>h1 x (yC hx))
 have HB:=la (xs.drop i) q.drew w.heap.size _ _ _ (i+1) H;have HK:=Z.setCells (S:=[]) (a:=w) (b:=w.heap.size) (.inr (ic _)) (xs.drop i) (i+1) a2.drew;have HF:=Vd (u:=u) aa a5 (by omega) hi;have aD:(cap:Int)<(cap:Int)+1:=by omega
 have ap:¬(Gw=i):=by omega
 have an:¬(Gw=i+1):=by omega
 have au:¬(cap=i):=by omega
 have aC:IntKind.i64.wrap ((i:Int)+1)=(i:Int)+1:=by rw[IntKind.wrap_i64];omega
 have lV:(0:Int)<=(i:Int)+1:=by omega
 have aq:(i:Int)+1<=(cap:Int)+1:=by omega
 have aA:((i:Int)+1).toNat=i+1:=by omega
 have ar:(i:Int)<=(cap:Int):=by omega
 clear D I H a2 a3 d hv a6 ag a4 h1 a9 ab a0 hR hG a5 U;rcases K with⟨rfl,rfl,rfl,rfl,rfl,rfl⟩|⟨rfl,rfl,rfl,rfl,rfl,rfl⟩
 all_goals
  first|go_enter func378,ntmps378|go_enter func257,ntmps257
  go_wp2_with (first
   |(at_builtin;refine Lib.wpList_append_run _ rfl _ _ _ _ rfl _ _ rfl rfl _ _ (ak _) ?_)
   |(at_builtin;refine wpList_copy_runI _ rfl _ _ _ _ rfl _ _ rfl rfl (a7 _ _) ?_))
  go_region_law (refine step_copy_runI rfl _ _ _ _ rfl (.slice (some ⟨w.heap.size,i+1,none⟩) (cap-i) (Gw-(i+1))) (.slice (some ⟨g,i,none⟩) (cap-i) (cap-i)) (by simp[Act.eval,Act.put]) (by simp[Act.eval,Act.put]) (a8 _ _ _) ?_)
  go_wp2;go_ret;refine⟨_,rfl,⟨by grind,.inr ⟨w.heap.size,Gw,_,rfl,hb,HB,ah,ae,by rw[jE,jE,ahq];exact af,by grind⟩⟩,HK.mono (by simp),.inr ?_⟩;intro k hk;simp[Value.ownBlock]at hk;omega
def aky(K:IK T S F O0 B z)(base n i m:Nat)(v u:gP)(xs:List gP)(w:J)(ho:w.ownsRow base T 1 v n xs)(hv:w.heap[m]?=some (gH #[u] T))(a0:v.ownBlock≠some m)(hu:u.oneCell'=true)(h1:∀x∈xs,x.oneCell'=true)(hi:i<=n)(q:n<=1048576)(hb:base<=w.heap.size):
  Calls prog F #[v,G i,nX m 1 1] w (ad9 T base v n i xs u w):=by
 by_cases I:i=n;subst I;exact acK K base i m v u xs w ho hv hu q hb;rcases ho.2 with⟨_,e0⟩|⟨g,cap,D,rfl,H,h,U,hm,y,d⟩;omega;have hg:m≠g:=λe=>a0 (by rw[e];rfl);rw[ahq]at y d;by_cases hr:n+1<=cap;exact Ve K base g cap n i m u D xs w H h d y hm hr (by omega) hv hg hu h1 q;exact YP K base g cap n i m u D xs w h d y U (by omega) (by omega) hv hu h1 q hb
end
def yM.acz(h:yM base b j tB C v xs w)(d:∀x∈xs,vy w x):ak3 v xs w:=ais h.row d
theorem yM.rR(h:yM base b j tB C v xs w):v.ownBlock≠some b:=by
 intro d;rcases h.row.2 with⟨e,_⟩|⟨g,cap,m,e,_,n,_⟩;rw[e]at d;cases d;rw[e]at d;obtain rfl:=Ki d;exact zB n h.il (yZ h.ne) rfl
theorem row_one(xs:kY):∀u∈xs.map kX,u.oneCell'=true:=by
 intro u d;obtain⟨x,_,rfl⟩:=List.mem_map.1 d;rfl
def pS(base b j:Nat)(tB:TypeId)(C:jL)(v:gP)(ys:kY)(w w':J):Prop:=
 ∃v',yM base b j tB (C.setIfInBounds j v') v' ys w'/\Z (b::v.ownBlock.toList) w w'/\(v'.ownBlock=v.ownBlock\/∀k,v'.ownBlock=some k->w.heap.size<=k)
def ve(h:C[j]?=some v):j<C.size:=(Array.getElem?_eq_some_iff.1 h).1
def afV(base b j:Nat)(tB:TypeId)(C:jL)(v:gP)(xs:kY)(w:J)(h:yM base b j tB C v xs w):
  Calls prog 170 #[j5 b j] w λe w'=>e=iA (kX (iC xs ((xs.length:Int)-1)))/\w'=w:=by
 have m:=h.at;have d:=h.le;obtain⟨ao,cap,rfl⟩:=gz h.row;have H:=afU base b j tB C _ xs ((xs.length:Int)-1) w h;go_enter func170,ntmps170;go_wp21;refine H.mono ?_;rintro e w'⟨rfl,rfl⟩;go_wp2;go_ret;simp
theorem akD(base b j:Nat)(tB:TypeId)(C:jL)(v:gP)(xs:kY)(x:jj)(w:J)(h:yM base b j tB C v xs w)(y:∀x∈xs,vy w x)(I:vy w x):
  Calls prog 313 #[j5 b j,kX x] w λe w'=>e=iA (.bool (decide (x∈xs)))/\w'=w:=by
 have U:=h.at;have D:=h.le;have n:Calls prog 340 #[v,kX x] w λe w'=>e=iA (.bool (decide (x∈xs)))/\w'=w:=by
  have H:=Iv v xs x w (h.acz y) I h.le;have m:decide (0<=posOf xs x)=decide (x∈xs):=by
   unfold posOf;by_cases hm:x∈xs;grind;grind
  have d:=V m;clear m;generalize posOf xs x=q at H d;generalize decide (x∈xs)=r at d|-;go_enter func340,ntmps340;go_wp21;refine H.mono ?_;rintro e w'⟨rfl,rfl⟩;go_wp2;go_ret;exact⟨by rw[<-d.out];rfl,rfl⟩
 obtain⟨ao,cap,rfl⟩:=gz h.row;have H:=n;go_enter func313,ntmps313;go_wp21;refine H.mono ?_;rintro e w'⟨rfl,rfl⟩;go_wp2;go_ret;simp
def Sj(base b j:Nat)(tB:TypeId)(C:jL)(v:gP)(xs:kY)(x:jj)(w:J)(h:yM base b j tB C v xs w)(m:∀x∈xs,vy w x)(D:vy w x):
  Calls prog 237 #[j5 b j,kX x] w λe w'=>e=iA (kX (iC xs (posOf xs x-1)))/\w'=w:=by
 have I:=h.at;have n:=h.le;have y: -1<=posOf xs x/\posOf xs x<=4096:=by unfold posOf;split<;>omega
 have⟨hp1,hp2⟩:=y;have d:=Iv v xs x w (h.acz m) D h.le;obtain⟨ao,cap,rfl⟩:=gz h.row;have H:=afU base b j tB C _ xs (posOf xs x-1) w h;generalize posOf xs x=q at H d hp1 hp2|-;go_enter func237,ntmps237;go_wp21;refine d.mono ?_;rintro e w'⟨rfl,rfl⟩;go_wp21;refine H.mono ?_;rintro e w'⟨rfl,rfl⟩;go_wp2;go_ret;simp
theorem afW(base b j:Nat)(tB:TypeId)(C:jL)(v:gP)(xs:kY)(x:jj)(w:J)(h:yM base b j tB C v xs w)(hl:xs.length<4096)(hb:base<=w.heap.size):
  Calls prog 262 #[j5 b j,kX x] w λe w'=>e=qs/\pS base b j tB C v (xs++[x]) w w':=by
 have⟨i0,hi,hz0,hz1,hz2⟩:=qz alR;have c1:=h.at;have a3:=h.rR;obtain⟨ao,cap,rfl⟩:=gz h.row;have H:=V h;clear h;have m:Z [] w (w.alloc (.cells #[kX x] 66)):=(Z.refl _ _).alloc _;have o1:=m.ownsRow H.row (λ_ _=>by simp);have b1:=m.at H.il (by simp);have v1:=fU w (gH #[kX x] 66);have a0:=V v1;clear v1;go_enter func262,ntmps262;go_wp2_with (at_builtin;refine jB _ rfl _ _ 170 rfl base 66 i0 (.pointer none) 1 8 underlying170 hi hz0 hz1 hz2 rfl (by decide) (.slice ao xs.length cap) xs.length (xs.map kX) rfl o1 ⟨w.heap.size,0,none⟩ 1 1 [kX x] rfl rfl (λk u I=>by rw[js,fP a0.out,<-I];simp) (λu I=>by simp at I;subst I;rfl) (by unfold maxLen;omega) (by omega) (by simp;omega) ?_);intro v' U d n a1;have K2:Z (Value.slice ao xs.length cap).ownBlock.toList w U:=(m.mono (by simp)).grown n (λk y=> .inl (by grind));have b2:U.heap[b]?=some (gH C tB):=K2.at H.il (by grind);have⟨ao',cap',hv⟩:=gz d;subst hv;have d1:U.cell? ⟨b,j,none⟩=some (.slice ao xs.length cap):=by rw[fP b2];exact H.cell
 have d2:=gx b2 j;have H3:=gh b2 j (.slice ao' (xs.length+1) cap');have D:(Value.slice ao' (xs.length+1) cap').ownBlock≠some b:=by
  intro y;rcases d.2 with⟨e,_⟩|⟨g,cap,a2,e,_,hc,_⟩;omega;rw[e]at y;obtain rfl:=Ki y;exact zB hc b2 (yZ H.ne) rfl
 have H4:=rF (a:=⟨b,j,none⟩) d D (.slice ao' (xs.length+1) cap');have H5:Z (b::(Value.slice ao xs.length cap).ownBlock.toList) w (U.setCell ⟨b,j,none⟩ (.slice ao' (xs.length+1) cap')):=(K2.mono (λk y _=>abv _ y)).setCell (.inl (by simp)) _;have q:(Value.slice ao' (xs.length+1) cap').ownBlock=(Value.slice ao xs.length cap).ownBlock\/∀k,(Value.slice ao' (xs.length+1) cap').ownBlock=some k->w.heap.size<=k:=by
  rcases a1 with e|e;grind;grind
 have HF:=q;go_wp2;go_end0;refine⟨rfl,_,⟨H3,?_,?_,H.ne,by grind⟩,H5,HF⟩;simp[ve H.out.cell];grind
theorem akF(base b j:Nat)(tB:TypeId)(C:jL)(v:gP)(xs:kY)(w:J)(h:yM base b j tB C v xs w):
  Calls prog 175 #[j5 b j] w λe w'=>e=iA (kX (iC xs ((xs.length:Int)-1)))/\pS base b j tB C v xs.dropLast w w':=by
 have U:=afV base b j tB C v xs w h;have c1:=h.at;have a2:=h.le;have D:=h.rR;obtain⟨ao,cap,rfl⟩:=gz h.row;have a4:xs.length<=cap:=by
  rcases h.row.2 with⟨e,e0⟩|⟨g,d,n,e,_,_,y,_⟩;omega;grind
 obtain⟨m,hm⟩:∃m:Nat,m=xs.length-1:=⟨_,rfl⟩;have a3:max (0:Int) ((xs.length:Int)-1)=(m:Int):=by omega
 have hf:=gx h.il j;have HF:pS base b j tB C (.slice ao xs.length cap) xs.dropLast w (w.drew.setCell ⟨b,j,none⟩ (.slice ao m cap)):=by
  have hr:(w.drew.setCell ⟨b,j,none⟩ (.slice ao m cap)).ownsRow base 66 1 (.slice ao m cap) xs.dropLast.length (xs.dropLast.map kX):=by
   have H:w.ownsRow base 66 1 (.slice ao m cap) xs.dropLast.length (xs.dropLast.map kX):=by
    refine⟨by simp,?_⟩;rcases h.row.2 with⟨e,e0⟩|⟨g,d,n,e,q,hc,y,a0,a1,I⟩;grind;injection e with e1 e2 e3;refine .inr ⟨g,cap,n,by grind,q,hc,by grind,by omega,by omega,?_⟩;rw[ahq]at I|-;rw[List.length_dropLast,List.map_dropLast,<-I,y7,Hn];grind
   refine rF (a:=⟨b,j,none⟩) (w:=w.drew) H ?_ _;have:(Value.slice ao m cap).ownBlock=(Value.slice ao xs.length cap).ownBlock:=by cases ao<;>rfl
   rw[this];exact D
  refine⟨_,⟨gh (w:=w.drew) h.il j _,?_,hr,h.ne,by grind⟩,(Z.refl _ w).drew.setCell (.inl (by simp)) _,.inl (by cases ao<;>rfl)⟩;simp[ve h.cell]
 clear h hm;go_enter func175,ntmps175;go_wp21;refine U.mono ?_;rintro e w'⟨rfl,hw⟩;subst hw;go_wp21;go_region;go_wp2;go_ret;exact⟨rfl,HF⟩
theorem uB(xs:kY)(x:jj):(x∉xs/\posOf xs x= -1)\/∃n:Nat,posOf xs x=n/\n<xs.length/\n=xs.idxOf x/\xs[n]?=some x:=by
 grind[posOf]
def FZ{n:Nat}(d:n=xs.idxOf x):xs.take n++xs.drop (n+1)=xs.erase x:=by
 rw[<-List.eraseIdx_eq_take_drop_succ,d,List.erase_eq_eraseIdx_of_idxOf rfl]
theorem pS.refl(h:yM base b j tB C v xs w):pS base b j tB C v xs w w:=by
 have e:C.setIfInBounds j v=C:=by
  have:=h.cell;apply Array.ext_getElem?;intro i;by_cases d:j=i;grind;grind
 exact⟨v,by grind,Z.refl _ _,.inl rfl⟩
theorem Ch(base b j:Nat)(tB:TypeId)(C:jL)(v:gP)(xs:kY)(x:jj)(w:J)(h:yM base b j tB C v xs w)(he:∀x∈xs,vy w x)(hx:vy w x):
  Calls prog 178 #[j5 b j,kX x] w λe w'=>e=qs/\pS base b j tB C v (xs.erase x) w w':=by
 have c1:=h.at;have H1:=Iv v xs x w (h.acz he) hx h.le;rcases uB xs x with⟨a6,hp⟩|⟨n,hp,a8,hn,_⟩
 .have HF:=pS.refl h;rw[List.erase_of_not_mem a6];obtain⟨ao,cap,rfl⟩:=gz h.row;rw[hp]at H1;clear h;go_enter func178,ntmps178;go_wp2_with fail;refine H1.mono ?_;rintro e w'⟨rfl,hw⟩;subst hw;go_wp2;go_end0;grind
 .have U:=h.rR;have a4:=h.le;rcases h.row.2 with⟨_,e0⟩|⟨g,cap,a1,rfl,a2,D,a5,hm,a0,d⟩;omega;rw[ahq]at a0 d;have HD:=alA g cap n (n+1) xs.length a1 w D a5 a0 (by omega) (by omega) a4 (by grind[row_one]);rw[show((n+1:Nat):Int)=(n:Int)+1 by omega,show xs.length-(n+1-n)=xs.length-1 by omega]at HD;have HN:=V hn;clear hn;have H:=V h;have HT:=V d;rw[hp]at H1;clear h d;go_enter func178,ntmps178;go_wp2_with fail;refine H1.mono ?_;rintro e w'⟨rfl,hw⟩;subst hw;go_wp2_with fail;refine HD.mono ?_;rintro e w2⟨rfl,y,a3,a9,a7,I⟩;have b2:=I.at H.il (by intro q;exact U (by simp at q;rw[q];rfl));have d1:w2.cell? ⟨b,j,none⟩=some (nX g xs.length cap):=by rw[fP b2];exact H.cell
  have d2:=gx b2 j;have H3:=gh b2 j (nX g (xs.length-1) cap);have m:(xs.erase x).length=xs.length-1:=by rw[<-FZ HN.out];simp;omega
  have r2:w2.ownsRow base 66 1 (nX g (xs.length-1) cap) (xs.erase x).length ((xs.erase x).map kX):=by
   refine⟨by simp,.inr ⟨g,cap,y,by rw[m],a2,a3,by omega,hm,by omega,?_⟩⟩;rw[ahq,m,a7,HT.out,<-FZ HN.out,rZ,lp,List.map_drop]
  have H4:=rF (a:=⟨b,j,none⟩) r2 U (nX g (xs.length-1) cap);have H5:Z (b::(nX g xs.length cap).ownBlock.toList) w' (w2.setCell ⟨b,j,none⟩ (nX g (xs.length-1) cap)):=(I.mono (λk hk _=>by simp at hk;subst hk;simp[Value.ownBlock])).setCell (.inl (by simp)) _;have HL:=V m;clear m;go_wp2;go_end0;exact⟨rfl,_,⟨H3,by grind[yM.cell,Hid.out],H4,H.ne,by grind⟩,H5,.inl rfl⟩
def ox(xs:kY)(x y:jj):kY:=if x∈xs then xs.set (xs.idxOf x) y else xs
def iY(xs:kY)(x y:jj):kY:=if x∈xs then xs.take (xs.idxOf x+1)++[y]++xs.drop (xs.idxOf x+1)else xs
def oQ(xs:kY)(x:jj):kY:=((xs.reverse.dropWhile (·≠x)).tail).reverse
theorem pS.trans{ys n:kY}{m:J}
  (y:yM base b j tB (C.setIfInBounds j v') v' ys w1) (h:Z (b::v.ownBlock.toList) w w1) (D:v'.ownBlock=v.ownBlock\/∀k,v'.ownBlock=some k->w.heap.size<=k)
  (q:pS base b j tB (C.setIfInBounds j v') v' n w1 m):pS base b j tB C v n w m:=by
 have⟨v2,L2,k2,f2⟩:=q;refine⟨v2,by simp_all,h.next k2 ?_,?_⟩;grind;rcases f2 with e|e;grind;exact .inr λk d=>jZ h.size (e k d)
theorem ID(base b j:Nat)(tB:TypeId)(C:jL)(v:gP)(xs:kY)(x y:jj)(w:J)(h:yM base b j tB C v xs w)(he:∀x∈xs,vy w x)(hx:vy w x):
  Calls prog 267 #[j5 b j,kX x,kX y] w λe w'=>e=qs/\pS base b j tB C v (ox xs x y) w w':=by
 have c1:=h.at;have D:=Iv v xs x w (h.acz he) hx h.le;rcases uB xs x with⟨a0,hp⟩|⟨n,hp,a4,hn,HX⟩;have HF:=pS.refl h;have hr:ox xs x y=xs:=by unfold ox;rw[Xx a0]
 rw[hr];obtain⟨ao,cap,rfl⟩:=gz h.row;rw[hp]at D
 rotate_left
 have a1:=h.rR;have a3:=h.le;have hr:ox xs x y=xs.set n y:=by unfold ox;rw[sL (ahs HX),<-hn]
 rw[hr];rcases h.row.2 with⟨_,e0⟩|⟨g,cap,q,rfl,I,d,a5,hm,a2,m⟩;omega;rw[ahq]at a2 m;have U:g≠b:=λe=>a1 (by rw[e];rfl);have d1:∃u,w.cell? ⟨g,n,none⟩=some u:=⟨q[n]'(by omega),by rw[fP d];simp⟩;have⟨u,d1⟩:=d1;have d2:=gx d n;have HF:pS base b j tB C (nX g xs.length cap) (xs.set n y) w (w.setCell ⟨g,n,none⟩ (kX y)):=by
  have H:(w.setCell ⟨g,n,none⟩ (kX y)).heap[b]?=some (gH C tB):=by rw[Below.heap_setCell w ⟨g,n,none⟩ _ b (yZ U)];exact h.il
  have L2:yM base b j tB C (nX g xs.length cap) (xs.set n y) (w.setCell ⟨g,n,none⟩ (kX y)):=by
   refine⟨H,h.cell,⟨by simp,.inr ⟨g,cap,_,by simp,I,gh d n (kX y),by grind,hm,by grind,?_⟩⟩,h.ne,by grind⟩;have:(q.setIfInBounds n (kX y)).toList=q.toList.set n (kX y):=by simp
   rw[this,List.length_set,ahq,List.take_set,m,List.map_set]
  have⟨v',L',k',f'⟩:=pS.refl L2;exact⟨v',L',(((Z.refl _ w).setCell (p:=⟨g,n,none⟩) (.inl (by simp[Value.ownBlock])) _).trans k'),by grind[World.size_setCell]⟩
 have HN:=V hn;rw[hp]at D;clear hn
 all_goals
  go_enter func267,ntmps267;go_wp21;refine D.mono ?_;rintro e w'⟨rfl,hw⟩;subst hw;go_wp2;go_end0;grind
theorem JU(base b j:Nat)(tB:TypeId)(C:jL)(v:gP)(xs:kY)(x y:jj)(w:J)(h:yM base b j tB C v xs w)(he:∀x∈xs,vy w x)(hx:vy w x)(hl:xs.length<4096)(hb:base<=w.heap.size):
  Calls prog 367 #[j5 b j,kX x,kX y] w λe w'=>e=qs/\pS base b j tB C v (iY xs x y) w w':=by
 have c1:=h.at;have I:=Iv v xs x w (h.acz he) hx h.le;rcases uB xs x with⟨a2,hp⟩|⟨n,hp,a7,hn,HX⟩
 .have HF:=pS.refl h;have hr:iY xs x y=xs:=by unfold iY;rw[Xx a2]
  rw[hr];obtain⟨ao,cap,rfl⟩:=gz h.row;rw[hp]at I;clear h;go_enter func367,ntmps367;go_wp21;refine I.mono ?_;rintro e w'⟨rfl,hw⟩;subst hw;go_wp2;go_end0;grind
 .have a9:=h.rR;have a6:=h.le;have hr:iY xs x y=xs.take (n+1)++[y]++xs.drop (n+1):=by unfold iY;rw[sL (ahs HX),<-hn]
  rw[hr];have d:Z [] w (w.alloc (.cells #[kX y] 66)):=(Z.refl _ _).alloc _;have v1:=fU w (gH #[kX y] 66);have a4:(w.alloc (gH #[kX y] 66)).heap.size=w.heap.size+1:=by simp
  have a8:=h.row.lt;have HD:=aky (.inl ⟨rfl,rfl,rfl,rfl,rfl,rfl⟩) base xs.length (n+1) w.heap.size v (kX y) (xs.map kX) (w.alloc (gH #[kX y] 66)) (d.ownsRow h.row (λ_ _=>by simp)) v1 (λe=>by grind) rfl (row_one xs) (by omega) (by omega) (by omega);rw[show((n+1:Nat):Int)=(n:Int)+1 by omega]at HD;have a3:=d.at h.il (by simp);obtain⟨ao,cap,rfl⟩:=gz h.row;have H:=V h;have HN:=V hn;rw[hp]at I;clear h hn;go_enter func367,ntmps367;go_wp21;refine I.mono ?_;rintro e w'⟨rfl,hw⟩;subst hw;go_wp21;refine HD.mono ?_;rintro e U⟨v',rfl,m,a1,a0⟩;have⟨ao',cap',hv⟩:=gz m;subst hv;have K2:Z (Value.slice ao xs.length cap).ownBlock.toList w' U:=(d.mono (by simp)).trans (S:=(Value.slice ao xs.length cap).ownBlock.toList) a1;have b2:U.heap[b]?=some (gH C tB):=K2.at H.il (by grind);have d1:U.cell? ⟨b,j,none⟩=some (.slice ao xs.length cap):=by rw[fP b2];exact H.cell
  have d2:=gx b2 j;have H3:=gh b2 j (.slice ao' (xs.length+1) cap');have D:(Value.slice ao' (xs.length+1) cap').ownBlock≠some b:=by
   intro hk;rcases m.2 with⟨e,_⟩|⟨g,cap,a5,e,_,hc,_⟩;omega;grind
  have H4:=rF (a:=⟨b,j,none⟩) m D (.slice ao' (xs.length+1) cap');have H5:Z (b::(Value.slice ao xs.length cap).ownBlock.toList) w' (U.setCell ⟨b,j,none⟩ (.slice ao' (xs.length+1) cap')):=(K2.mono (λk hk _=>abv _ hk)).setCell (.inl (by simp)) _;have q:(Value.slice ao' (xs.length+1) cap').ownBlock=(Value.slice ao xs.length cap).ownBlock\/∀k,(Value.slice ao' (xs.length+1) cap').ownBlock=some k->w'.heap.size<=k:=by
   rcases a0 with e|e;exact .inl e;grind
  have HF:=q;go_wp2;go_end0;refine⟨rfl,_,⟨H3,by grind[yM.cell,Hid.out],?_,H.ne,by simp;omega⟩,H5,HF⟩;have e1:(xs.take (n+1)++[y]++xs.drop (n+1)).length=xs.length+1:=by simp;omega
  simp_all
theorem adg(x:jj):oQ [] x=[]:=rfl
theorem Zh(xs:kY)(y x:jj):oQ (xs++[y]) x=if y=x then xs else oQ xs x:=by
 grind[List.dropWhile_cons_of_neg,List.dropWhile_cons_of_pos,oQ]
theorem ub(xs:kY)(y:jj):iC (xs++[y]) (((xs++[y]).length:Int)-1)=y:=by
 unfold iC;rw[sL (by grind)];simp
def Ci(a:Addr)(w:J):Nat:=match w.cell? a with
 |some (.slice _ n _)=>n
 |_=>0
def yM.Ci(h:yM base b j tB C v xs w):Ci ⟨b,j,none⟩ w=xs.length:=by
 obtain⟨ao,cap,rfl⟩:=gz h.row;unfold YtdbbknopdbpfaaaGreatDoor.Ci;rw[h.at]
theorem vy.kept(h:vy w x)(n:Z S w w')(m:∀k,x=some k->k∉S):vy w' x:=by
 intro k d;have⟨c,hc⟩:=h k d;exact⟨c,n.at hc (m k d)⟩
theorem L0(h:yM base b j tB C v xs w)(q:tB≠136)(D:vy w x):∀k,x=some k->k∉b::v.ownBlock.toList:=by
 intro k y d;have⟨c,hc⟩:=D k y;rcases List.mem_cons.1 d with rfl|d;exact zB h.il hc q rfl;rcases h.row.2 with⟨e,_⟩|⟨g,cap,n,e,_,m,_⟩;rw[e]at d;simp[Value.ownBlock]at d;simp[Value.ownBlock]at d;grind
theorem aaN(base b j:Nat)(tB:TypeId)(C:jL)(v:gP)(xs:kY)(x:jj)(w:J)(h:yM base b j tB C v xs w)(hB:tB≠136)(he:∀x∈xs,vy w x)(hx:vy w x):
  Calls prog 319 #[j5 b j,kX x] w λe w'=>e=qs/\pS base b j tB C v (oQ xs x) w w':=by
 have h0:=pS.refl h;have hE:=he;have hX:=hx;have hO:=(λy hy=>L0 h hB (he y hy));have a1:=L0 h hB hx;go_enter func319,ntmps319;go_wp2
 go_loopw [9] (λ_ wr=>∃q,(∀y∈q,y∈xs)/\oQ q x=oQ xs x/\pS base b j tB C v q w wr) (λ_ wr=>Ci ⟨b,j,none⟩ wr)
 case atStart=>grind
 case round=>
  have⟨q,hS,hpt,v',L1,k1,f1⟩:=hrel;have hz:=L1.Ci;have c1:=L1.at;have⟨ao,cap,hv⟩:=gz L1.row;have a2:q=[]\/∃n y,q=n++[y]:=by
   rcases pU q with h|⟨n,y,h⟩;grind;grind
  rcases a2 with rfl|⟨n,y,rfl⟩
  .rw[hv]at c1;have HF:=(show pS base b j tB C v (oQ xs x) w wr from⟨v',by grind[adg],k1,f1⟩);clear L1 hz;go_wp2;go_end0;grind
  .rw[hv]at c1;have H:0<(n++[y]).length:=by simp
   have HP:=akF base b j tB _ v' _ wr L1;rw[ub]at HP;have HY:vy w y:=hE y (hS y (by simp));have a0:=hO y (hS y (by simp));have HT:=(λ(I:J) (h2:pS base b j tB (C.setIfInBounds j v') v' (n++[y]).dropLast wr I)=>pS.trans L1 k1 f1 h2);have HL:=V L1;have hq:=V (show oQ xs x=if y=x then n else oQ n x by grind[Zh]);have a4:=V hz;obtain⟨m,U⟩:∃m,m=(n++[y]).length:=⟨_,rfl⟩;rw[<-U]at c1 H a4;have HM:=V U;have a6:m<=4096:=by rw[U];exact L1.le
   clear L1 hz U;go_wp21;refine HP.mono ?_;rintro e I⟨rfl,a3⟩;have T2:=HT I a3;rw[n4]at T2;have⟨v2,L2,k2,f2⟩:=T2;have D:=Ek (HY.kept k2 a0) (hX.kept k2 a1);have a7:=V L2.Ci;by_cases d:y=x
   .rw[Hl d]at D;have HF:=(show pS base b j tB C v (oQ xs x) w I from⟨v2,by grind[Hid.out],k2,f2⟩);clear L2 d;go_wp2
    (try simp only[Exit.inBlock,Exit.then])
    refine uF (QU rfl _ _ _) rfl ?_;grind
   .rw[qW d]at D;have HF:=(show pS base b j tB C v n w I from⟨v2,L2,k2,f2⟩);have a5:=V d;clear L2 d;go_wp2;grind[Hid.out]
attribute [local go_sem] Oper.semAt_some
def lw(K:List Nat)(W W':J):Prop:=∀k∈K,W'.heap[k]?=W.heap[k]?
theorem lw.refl(K:List Nat)(W:J):lw K W W:=λ_ _=>rfl
theorem lw.trans{C:J}(h:lw K A B)(k:lw K B C):lw K A C:=λx d=>(k x d).trans (h x d)
def lw.j9(h:Z S W W')(d:∀k∈K,k<W.heap.size/\k∉S):lw K W W':=λk m=>h.block k (d k m).1 (d k m).2
theorem lw.put(h:∀k∈K,k<w.heap.size)(W:J)(l:Nat)(o d:Obj)(n:w.heap.size<=l)(_:W.heap[l]?=some o)(_:o.isCells=false)(_:o.isWalk=false):lw K W (W.putObj l d):=
 λk m=>aht (by grind)
theorem yM.IC(h:yM base b j tB C v xs w)(n:lw K w w')(q:b∈K)(D:∀k,v.ownBlock=some k->k∈K):yM base b j tB C v xs w':=by
 refine⟨(n b q).trans h.il,h.cell,⟨h.row.1,?_⟩,h.ne,h.le⟩;rcases h.row.2 with e|⟨g,cap,d,e,m,y,r⟩;grind;exact .inr ⟨g,cap,d,e,m,(n g (D g (by rw[e];rfl))).trans y,r⟩
theorem amB(m:Nat)(af:1<=m)(base b j:Nat)(tB:TypeId)(C:jL)(v:gP)(xs:kY)(n bN U l:Nat)(K:List Nat)(Ji Jx:List {x:jj // x∈xs}->J->Prop)
  (hn:n<=xs.length) (aa:b∈K) (a9:U∈K) (ab:∀k,v.ownBlock=some k->k∈K)
  (hY:∀pre x W,Ji pre W->pre.length<n->YieldAt Fence.wide (m-1) prog l #[kX x.1] W λe W'=>
   (e=iA (.bool true)/\Ji (pre++[x]) W'/\lw K W W')\/(e=iA (.bool false)/\Jx (pre++[x]) W'))
  (W:J) (h:yM base b j tB C v xs W) (hN:W.cell? ⟨bN,0,none⟩=some (G n)) (hL:W.cell? ⟨U,0,none⟩=some (j5 b j)) (h0:Ji [] W):
  CallsIn Fence.wide m prog 348 #[.func (.yield l) #[] #[],gI bN,gI U] W λe W'=>(∃r,e=iA r)/\
   ((∃ys,ys.map (·.1)=(xs.take n).reverse/\Ji ys W')\/(∃pre,pre.map (·.1) <+:(xs.take n).reverse/\Jx pre W')):=by
 refine callsIn_of_wp func348 rfl trivial ?_ rfl;simp only[ntmps348,abw,pG,Kk,Nat.reduceAdd,Nat.reduceSub,sR,yD,wL,yE,abu,yF];have ad:=h.le;have HL:=V h;clear h;have HY:=V hY;clear hY;gi_wp2
 gi_loopw [4] (λi wr=>∃(k:Nat)(pre:List {x:jj // x∈xs}),k<=n/\pre.length=k/\i=G ((n:Int)-1-k)/\pre.map (·.1)=(xs.take n).reverse.take k/\lw K W wr/\Ji pre wr)
  (λi _=>((intOf i)+1).toNat)
 case atStart=>grind[lw]
 case round=>
  obtain⟨k,pre,hk,ag,rfl,I,y,hJ⟩:=hrel;have L1:=HL.out.IC y aa ab;have cL:wr.cell? ⟨U,0,none⟩=some (j5 b j):=(ahr (w:=W) (y U a9)).trans hL;have HP:=V I;have a6:=V y;clear I y;by_cases ae:k<n
  .obtain⟨q,hq⟩:∃q:Nat,q=n-1-k:=⟨_,rfl⟩;have a3:(n:Int)-1-k=(q:Int):=by omega
   have D:q<xs.length:=by omega
   rw[a3];have hA:=afU base b j tB C v xs (q:Int) wr L1;have hg:iC xs (q:Int)=xs[q]:=by unfold iC;rw[sL (by omega)];simp[D]
   rw[hg]at hA;have HA:=V hA;have⟨fn,tmps,assign,body,hy,hR⟩:=HY.out pre ⟨xs[q],wK D⟩ wr hJ (by omega);dsimp only at hy;have d:(pre++[(⟨xs[q],wK D⟩:{x:jj // x∈xs})]).map (·.1)=(xs.take n).reverse.take (k+1):=by
    have a2:(xs.take n).length=n:=by simp;omega
    have e1:(xs.take n).reverse[k]?=some xs[q]:=by
     rw[List.getElem?_reverse (by omega),a2,gM,sL (by omega),show n-1-k=q from hq.symm,yG D]
    rw[rZ,HP.out,yH,e1];rfl
   have HS:=V d;have HR:=V hR;have HQ:=V hq;clear hA hg d hR L1 hq a3
   gi_wp2_with (refine⟨trivial,?_⟩;gi_at_call 239;refine(callsIn_wide.2 HA.out).mono ?_;rintro e w'⟨rfl,rfl⟩)
   refine HR.out.mono ?_;rintro e W3 (⟨rfl,a8,a1⟩|⟨rfl,a0⟩)
   .have a5:=V (a6.out.trans a1);clear a1;gi_wp2;go_roundw
    case rel=>exact⟨k+1,_,by omega,by grind,by have:=HQ.out;grind,HS.out,a5.out,a8⟩
    case measure=>simp[intOf]
   .gi_wp2;refine uF (QU rfl _ _ _) rfl ?_;refine⟨⟨_,rfl⟩,.inr ⟨_,?_,a0⟩⟩;rw[HS.out];exact List.take_prefix _ _
  .have ac:k=n:=by omega
   have a4:pre.map (·.1)=(xs.take n).reverse:=by
    rw[HP.out,NZ (by grind)]
   have a7:=V a4;have H:(n:Int)-1-k= -1:=by omega
   rw[H];clear a4 ac H;gi_wp2;go_end0;exact⟨⟨_,rfl⟩,.inl ⟨pre,a7.out,hJ⟩⟩
abbrev nJ(b j:Nat)(n:Int)(w:J):J:=(w.alloc (gH #[j5 b j] 273)).alloc (gH #[G n] 3)
abbrev wJ(s:Nat):gP:=.func (.func 348) #[] #[gI (s+1),gI s]
def QQ(b j:Nat)(n:Int)(w:J):
  Calls prog 321 #[j5 b j,G n] w λe w'=>e=iA (wJ w.heap.size)/\w'=nJ b j n w:=by
 go_wp2;go_ret;simp
def acT(base b j:Nat)(tB:TypeId)(C:jL)(v:gP)(xs:kY)(w:J)(h:yM base b j tB C v xs w):
  Calls prog 285 #[j5 b j] w λe w'=>e=iA (wJ w.heap.size)/\w'=nJ b j xs.length w:=by
 have n:=h.at;obtain⟨ao,cap,rfl⟩:=gz h.row;go_enter func285,ntmps285;go_wp21;refine(QQ b j xs.length w).mono ?_;rintro e w'⟨rfl,d⟩;have m:=V d;clear d;go_wp2;go_ret;exact⟨rfl,m⟩
def aiP(base b j:Nat)(tB:TypeId)(C:jL)(v:gP)(xs:kY)(x:jj)(w:J)(h:yM base b j tB C v xs w)(n:∀x∈xs,vy w x)(q:vy w x):
  Calls prog 376 #[j5 b j,kX x] w λe w'=>e=iA (wJ w.heap.size)/\w'=nJ b j (posOf xs x) w:=by
 have y:=h.at;have H:=QQ b j (posOf xs x) w;go_enter func376,ntmps376;go_wp21;refine(Iv v xs x w (h.acz n) q h.le).mono ?_;rintro e w'⟨rfl,d⟩;go_wp21;refine H.mono ?_;rintro e w'⟨rfl,d⟩;have m:=V d;clear d;go_wp2;go_ret;exact⟨rfl,m⟩
theorem Xk(m:Nat)(U:1<=m)(base b j:Nat)(tB:TypeId)(C:jL)(v:gP)(xs:kY)(n s:Nat)(K:List Nat)(w:J)
  (h:yM base b j tB C v xs w) (hn:n<=xs.length) (y:b∈K) (q:s∈K) (D:∀k,v.ownBlock=some k->k∈K) (I:s+1<w.heap.size)
  (hN:w.heap[s+1]?=some (gH #[G n] 3)) (hL:w.heap[s]?=some (gH #[j5 b j] 273)):
  SeqStopsK Fence.wide m prog 348 #[gI (s+1),gI s] (λx:{x:jj // x∈xs}=>#[kX x.1]) (lw K)
   (λys=>ys.map (·.1)=(xs.take n).reverse) (λpre=>pre.map (·.1) <+:(xs.take n).reverse) n w:=by
 intro l Ji Jx W d _ _ hY h0;have L1:=by
  refine h.IC (K:=b::v.ownBlock.toList) (λk H=>d.block k ?_) (by simp) (λk H=>by grind);rcases List.mem_cons.1 H with rfl|H;exact(ja h.il);exact(h.row.lt k (by grind)).2
 exact amB m U base b j tB C v xs n _ s l K Ji Jx hn y q D hY W L1 (by rw[fP ((d.block _ I).trans hN)];rfl) (by rw[fP ((d.block _ (by omega)).trans hL)];rfl) h0
def ld(a b:O):Bool:=a.toList==b.toList
theorem sA{a b:O}:ld a b=true↔a=b:=by
 grind[ByteArray.toList_eq,WideShapes.bytes_inj,ld]
theorem afh{a b:O}:ld a b=false↔a≠b:=by grind[sA]
def gO(d:List O)(x:O):Bool:=d.any (ld x)
def VR(d:List O)(s:O):Int:=if d.findIdx (ld s)<d.length then (d.findIdx (ld s):Int)else -1
theorem ajk{xs:List O}{x:O}(y:k<xs.length)(D:xs[k]=x)(h:∀j,j<k->xs[j]?≠some x):VR xs x=k:=by
 have q:xs.findIdx (ld x)=k:=by
  have m:¬xs.findIdx (ld x)<k:=λd=>h _ d (by
   grind[sA])
  have n:¬k<xs.findIdx (ld x):=λd=>by
   grind[sA]
  omega
 grind[VR]
theorem ajl{xs:List O}{x:O}(d:∀j,j<xs.length->xs[j]?≠some x):VR xs x= -1:=by
 grind[sA,VR]
theorem agD(xs:List O)(x:O):decide (0<=VR xs x)=gO xs x:=by
 grind[VR,gO]
theorem aiD(g cap:Nat)(d:List O)(x:O)(w:J)(hc:∀k,(hk:k<d.length)->w.cell? ⟨g,k,none⟩=some (Y d[k]))(a0:d.length<=4096):
  Calls prog 320 #[nX g d.length cap,Y x] w λe w'=>e=iA (G (VR d x))/\w'=w:=by
 have HC:=V hc;clear hc;go_enter func320,ntmps320;go_wp2
 go_loopw [8] (λi wr=>∃k:Nat,k<=d.length/\i=G k/\wr=w/\∀j,j<k->d[j]?≠some x) (λi _=>d.length-(intOf i).toNat)
 case atStart=>grind
 case round=>
  obtain⟨k,hk,rfl,rfl,I⟩:=hrel;by_cases m:k<d.length
  .have c2:=HC k m;obtain⟨y,H⟩:∃y,y=d[k]:=⟨_,rfl⟩;rw[<-H]at c2;have U:=V H;clear H;by_cases n:x=y
   .have D:=V (ajk m (U.symm.trans n.symm) I);subst n;go_wp2;go_ret;exact⟨by rw[D.out];rfl,rfl⟩
   .have q:=n;have hq:(x.toList==y.toList)=false:=afh.2 n;go_wp2;go_roundw
    case rel=>
     refine⟨k+1,by omega,by go_num,by simp,λj hj=>?_⟩;by_cases e:j=k;subst e;rw[yG m];exact λh=>q ((Ki h).symm.trans U.symm);grind
    case measure=>simp[intOf];omega
  .have D:=V (ajl (xs:=d) (x:=x) (λj hj=>I j (by omega)));go_wp2;go_ret;exact⟨by rw[D.out];rfl,rfl⟩
def RL(g cap:Nat)(d:List O)(x:O)(w:J)(m:∀k,(hk:k<d.length)->w.cell? ⟨g,k,none⟩=some (Y d[k]))(h:d.length<=4096):
  Calls prog 283 #[nX g d.length cap,Y x] w λe w'=>e=iA (.bool (gO d x))/\w'=w:=by
 go_enter func283,ntmps283;go_wp21;refine(aiD g cap d x w m h).mono ?_;rintro e w'⟨rfl,rfl⟩;go_wp2;go_ret;exact⟨by rw[<-(V (agD d x)).out];rfl,rfl⟩
structure pk(E:List Nat)(v:gP)(p:O->Bool)(w:J):Prop where
 ex:∃k lb,v=.func (.func k) #[] lb/\Enters prog k/\∀W,lw E w W->∀s,Calls prog k (#[Y s]++lb) W λe W'=>e=iA (.bool (p s))/\W'=W
 lt:∀e∈E,e<w.heap.size
theorem pk.keeps(h:pk E v p w)(n:lw E w w')(hs:w.heap.size<=w'.heap.size):pk E v p w':=by
 obtain⟨⟨k,y,rfl,m,d⟩,q⟩:=h;constructor<;>grind[lw.trans]
theorem pk.kept(h:pk E v p w)(m:Z S w w')(n:∀e∈E,e∉S):pk E v p w':=
 h.keeps (lw.j9 m λk d=>⟨h.lt k d,n k d⟩) m.size
def pk.ir(h:pk E v p w)(d:Z [] w w'):pk E v p w':=h.kept d (λ_ _=>by simp)
def pw(h:lw E w W)(d:b∈E)(m:w.heap[b]?=some (gH c t)):W.heap[b]?=some (gH c t):=(h b d).trans m
theorem afL(bs g cap:Nat)(d:List O)(w:J)(n:w.heap[bs]?=some (gH #[nX g d.length cap] 33))(q:w.heap[g]?=some (gH (d.map Value.string).toArray 9))(h:d.length<=4096):
  pk [bs,g] (.func (.func 282) #[] #[gI bs]) (gO d) w:=by
 refine⟨⟨_,_,rfl,enters_of func282 (by rfl) rfl,λW m s=>?_⟩,λe D=>?_⟩
 .have y:=fP (pw m (by simp) n) 0;go_enter func282,ntmps282;go_wp21;refine(RL g cap d s W (λk H=>by rw[fP (pw m (by simp) q)];simp) h).mono ?_;rintro e w'⟨rfl,rfl⟩;go_wp2;go_ret;simp
 grind
def akz(g cap:Nat)(n:Nat)(w:J):
  Calls prog 216 #[nX g n cap] w λe w'=>e=iA (.func (.func 282) #[] #[gI w.heap.size])/\w'=w.alloc (gH #[nX g n cap] 33):=by
 go_wp2;go_ret;simp
theorem lw.sub{d:List Nat}(h:lw K A B)(hs:∀k∈d,k∈K):lw d A B:=λk m=>h k (hs k m)
theorem amh(b1 b2:Nat)(H I:List Nat)(v1 v2:gP)(p q:O->Bool)(w:J)(h1:w.heap[b1]?=some (gH #[v1] 85))(h2:w.heap[b2]?=some (gH #[v2] 85))(U:pk H v1 p w)(hq:pk I v2 q w):
  pk (b1::b2::(H++I)) (.func (.func 290) #[] #[gI b1,gI b2]) (λs=>p s||q s) w:=by
 refine⟨⟨_,_,rfl,enters_of func290 (by rfl) rfl,λW n s=>?_⟩,λe h=>?_⟩
 .have c1:=fP (pw n (by simp) h1) 0;have c2:=fP (pw n (by simp) h2) 0;dsimp at c1 c2;obtain⟨k1,a0,rfl,e1,a1⟩:=U.ex;obtain⟨k2,a3,rfl,e2,a2⟩:=hq.ex;have m:=a1 W (n.sub (λk y=>by simp[y])) s;have D:=a2 W (n.sub (λk y=>by simp[y])) s;have f1:∀d w,(callFunc k1 d).run prog w=.ok (.enter k1 d) w:=e1;have f2:∀d w,(callFunc k2 d).run prog w=.ok (.enter k2 d) w:=e2;cases hps:p s with
  |true=>
   rw[hps]at m;go_enter func290,ntmps290;go_wp21;refine m.mono ?_;rintro e w'⟨rfl,rfl⟩;go_wp2;go_ret;simp
  |false=>
   rw[hps]at m;generalize q s=r at D|-;go_enter func290,ntmps290;go_wp21;refine m.mono ?_;rintro e w'⟨rfl,rfl⟩;go_wp21;refine D.mono ?_;rintro e w'⟨rfl,rfl⟩;go_wp2;go_ret;simp
 simp at h;rcases h with rfl|rfl|h|h;grind;grind;exact U.lt e h;exact hq.lt e h
theorem ah7(b1 b2:Nat)(H I:List Nat)(v1 v2:gP)(p q:O->Bool)(w:J)(h1:w.heap[b1]?=some (gH #[v1] 85))(h2:w.heap[b2]?=some (gH #[v2] 85))(U:pk H v1 p w)(hq:pk I v2 q w):
  pk (b1::b2::(H++I)) (.func (.func 315) #[] #[gI b1,gI b2]) (λs=>p s&&!q s) w:=by
 refine⟨⟨_,_,rfl,enters_of func315 (by rfl) rfl,λW n s=>?_⟩,λe h=>?_⟩
 .have c1:=fP (pw n (by simp) h1) 0;have c2:=fP (pw n (by simp) h2) 0;dsimp at c1 c2;obtain⟨k1,a0,rfl,e1,a1⟩:=U.ex;obtain⟨k2,a3,rfl,e2,a2⟩:=hq.ex;have m:=a1 W (n.sub (λk y=>by simp[y])) s;have D:=a2 W (n.sub (λk y=>by simp[y])) s;have f1:∀d w,(callFunc k1 d).run prog w=.ok (.enter k1 d) w:=e1;have f2:∀d w,(callFunc k2 d).run prog w=.ok (.enter k2 d) w:=e2;show Calls prog 315 #[Y s,gI b1,gI b2] W _;cases hps:p s with
  |true=>
   rw[hps]at m;generalize q s=r at D|-;go_enter func315,ntmps315;go_wp21;refine m.mono ?_;rintro e w'⟨rfl,rfl⟩;go_wp21;refine D.mono ?_;rintro e w'⟨rfl,rfl⟩;go_wp2;go_ret;simp
  |false=>
   rw[hps]at m;go_enter func315,ntmps315;go_wp21;refine m.mono ?_;rintro e w'⟨rfl,rfl⟩;go_wp2;go_ret;simp
 simp at h;rcases h with rfl|rfl|h|h;grind;grind;exact U.lt e h;exact hq.lt e h
theorem ai0(b1:Nat)(n:List Nat)(v1:gP)(p:O->Bool)(w:J)(U:w.heap[b1]?=some (gH #[v1] 85))(y:pk n v1 p w):
  pk (b1::n) (.func (.func 289) #[] #[gI b1]) (λs=>!p s) w:=by
 refine⟨⟨_,_,rfl,enters_of func289 (by rfl) rfl,λW q s=>?_⟩,λe h=>?_⟩
 .have I:=fP (pw q (by simp) U) 0;dsimp at I;obtain⟨D,a0,rfl,e1,H⟩:=y.ex;have m:=H W (q.sub (λk hk=>by simp[hk])) s;have f1:∀d w,(callFunc D d).run prog w=.ok (.enter D d) w:=e1;show Calls prog 289 #[Y s,gI b1] W _;generalize p s=r at m|-;go_enter func289,ntmps289;go_wp21;refine m.mono ?_;rintro e w'⟨rfl,rfl⟩;go_wp2;go_ret;simp
 simp at h;rcases h with rfl|h;grind;exact y.lt e h
def ajd(m n:List Nat)(v1 v2:gP)(p q:O->Bool)(w:J)(D:pk m v1 p w)(H:pk n v2 q w):
  Calls prog 236 #[v1,v2] w λe w'=>(∃v,e=iA v/\pk (w.heap.size::(w.heap.size+1)::(m++n)) v (λs=>p s||q s) w'/\w'.heap[w.heap.size]?=some (gH #[v1] 85)/\w'.heap[w.heap.size+1]?=some (gH #[v2] 85))/\Z [] w w':=by
 have h:Calls prog 236 #[v1,v2] w λe w'=>e=iA (.func (.func 290) #[] #[gI w.heap.size,gI (w.heap.size+1)])/\w'=(w.alloc (gH #[v1] 85)).alloc (gH #[v2] 85):=by
  obtain⟨I,U,rfl,_,_⟩:=D.ex;obtain⟨d,a0,rfl,_,_⟩:=H.ex;go_enter func236,ntmps236;go_wp2;go_ret;exact⟨by simp,rfl⟩
 refine h.mono ?_;rintro e w'⟨rfl,rfl⟩;have I:Z [] w (w.alloc (gH #[v1] 85)):=(Z.refl _ _).alloc _;have d:=I.alloc (gH #[v2] 85);have y:=fU (w.alloc (gH #[v1] 85)) (gH #[v2] 85);rw[Xu]at y;exact⟨⟨_,rfl,amh _ _ m n v1 v2 p q _ ((Below.heap_alloc _ _ _ (by simp)).trans (fU w _)) y (D.ir d) (H.ir d),(Below.heap_alloc _ _ _ (by simp)).trans (fU w _),y⟩,d⟩
def aeH(m n:List Nat)(v1 v2:gP)(p q:O->Bool)(w:J)(D:pk m v1 p w)(H:pk n v2 q w):
  Calls prog 271 #[v1,v2] w λe w'=>(∃v,e=iA v/\pk (w.heap.size::(w.heap.size+1)::(m++n)) v (λs=>p s&&!q s) w'/\w'.heap[w.heap.size]?=some (gH #[v1] 85)/\w'.heap[w.heap.size+1]?=some (gH #[v2] 85))/\Z [] w w':=by
 have h:Calls prog 271 #[v1,v2] w λe w'=>e=iA (.func (.func 315) #[] #[gI w.heap.size,gI (w.heap.size+1)])/\w'=(w.alloc (gH #[v1] 85)).alloc (gH #[v2] 85):=by
  obtain⟨I,U,rfl,_,_⟩:=D.ex;obtain⟨d,a0,rfl,_,_⟩:=H.ex;go_enter func271,ntmps271;go_wp2;go_ret;exact⟨by simp,rfl⟩
 refine h.mono ?_;rintro e w'⟨rfl,rfl⟩;have I:Z [] w (w.alloc (gH #[v1] 85)):=(Z.refl _ _).alloc _;have d:=I.alloc (gH #[v2] 85);have y:=fU (w.alloc (gH #[v1] 85)) (gH #[v2] 85);rw[Xu]at y;exact⟨⟨_,rfl,ah7 _ _ m n v1 v2 p q _ ((Below.heap_alloc _ _ _ (by simp)).trans (fU w _)) y (D.ir d) (H.ir d),(Below.heap_alloc _ _ _ (by simp)).trans (fU w _),y⟩,d⟩
def agh(d:List Nat)(v1:gP)(p:O->Bool)(w:J)(n:pk d v1 p w):
  Calls prog 235 #[v1] w λe w'=>(∃v,e=iA v/\pk (w.heap.size::d) v (λs=>!p s) w'/\w'.heap[w.heap.size]?=some (gH #[v1] 85))/\Z [] w w':=by
 have h:Calls prog 235 #[v1] w λe w'=>e=iA (.func (.func 289) #[] #[gI w.heap.size])/\w'=w.alloc (gH #[v1] 85):=by
  obtain⟨m,q,rfl,_,_⟩:=n.ex;go_enter func235,ntmps235;go_wp2;go_ret;exact⟨rfl,rfl⟩
 refine h.mono ?_;rintro e w'⟨rfl,rfl⟩;have m:Z [] w (w.alloc (gH #[v1] 85)):=(Z.refl _ _).alloc _;exact⟨⟨_,rfl,ai0 _ d v1 p _ (fU w _) (n.ir m),fU w _⟩,m⟩
open Go.ChangeMaps (setBlock)
theorem aai(a b:O):(a==b)=ld a b:=by
 have h:(a==b)=(a.data==b.data):=rfl;by_cases e:a=b;grind[ld];rw[afh.2 e];have:a.data≠b.data:=λd=>e (by cases a;simp_all);grind
def de(e:MapEntry):gP×gP:=(e.key,e.val)
def df(p:O×gP):gP×gP:=(Y p.1,p.2)
def cY:List (O×gP)->O->Nat->Option (Nat×gP)
 |[],_,_=>none
 |p::L,k,i=>if ld k p.1 then some (i,p.2)else cY L k (i+1)
def Bw:List (O×gP)->O->Option gP
 |[],_=>none
 |p::L,k=>if ld k p.1 then some p.2 else Bw L k
def EP:List (O×gP)->O->gP->List (O×gP)
 |[],k,v=>[(k,v)]
 |p::L,k,v=>if ld k p.1 then (k,v)::L else p::EP L k v
def UV:∀(L:List (O×gP))(k:O)(i:Nat),(cY L k i).map (·.2)=Bw L k
 |[],_,_=>rfl
 |p::L,k,i=>by
  unfold cY Bw;split;rfl;exact UV L k _
theorem UW:∀(L:List (O×gP))(k:O)(i:Nat)(v:gP),cY L k i=none->EP L k v=L++[(k,v)]
 |[],_,_,_,_=>rfl
 |p::L,k,i,v,h=>by
  unfold cY at h;split at h;cases h;rename_i d;unfold EP;rw[Xx d,UW L k _ v h];rfl
theorem UX:∀(L:List (O×gP))(k:O)(i j:Nat)(u v:gP),cY L k i=some (j,u)->∃n,j=i+n/\n<L.length/\(L[n]?).map (·.1)=some k/\EP L k v=L.set n (k,v)
 |[],_,_,_,_,_,h=>by cases h
 |p::L,k,i,j,u,v,h=>by
  unfold cY at h;split at h
  .cases h<;>grind[sA,EP]
  have⟨n,e1,e2,e3,e4⟩:=UX L k _ j u v h;refine⟨n+1,by omega,by grind,by grind,?_⟩;grind[EP]
theorem RY(k:O):∀(d:List MapEntry)(L:List (O×gP))(i:Nat),d.map de=L.map df->Instr.findNow .string (Y k) d i=some (cY L k i)
 |[],[],_,_=>rfl
 |[],_::_,_,h=>by grind
 |_::_,[],_,h=>by grind
 |e::d,p::L,i,h=>by
  simp at h;have m:e.key=Y p.1:=DZ Prod.fst h.1;have n:e.val=p.2:=DZ Prod.snd h.1;unfold Instr.findNow cY;simp[m,Instr.sameNow,aai];cases hf:ld k p.1;exact RY k d L _ h.2;grind
def tP(w:J)(b:Nat)(L:List (O×gP)):Prop:=∃h d,w.heap[b]?=some (.map h d)/\h.toList.map de=L.map df
theorem tP.keeps(h:tP w b L)(e:w'.heap[b]?=w.heap[b]?):tP w' b L:=by
 grind[tP]
theorem tP.lt(h:tP w b L):b<w.heap.size:=by
 have⟨es,clock,ha,_⟩:=h;grind
theorem tP.kept(h:tP w b L)(m:Z S w w')(d:b∉S):tP w' b L:=h.keeps (m.block b h.lt d)
theorem tP.new(w:J):tP (w.alloc (.map #[] 0)) w.heap.size []:=⟨#[],0,fU w _,rfl⟩
theorem Cg(h:Z S a w)(d:b∈S\/a.heap.size<=b)(o:Obj):Z S a (setBlock w b o):=
 ⟨h.os,h.tape,h.output,by show a.heap.size<=(w.heap.setIfInBounds b o).size;rw[sS];exact h.size,λk m n=>by
  show(w.heap.setIfInBounds b o)[k]?=_;grind[Z.block]⟩
theorem GV(h:b<w.heap.size)(o:Obj):(setBlock w b o).heap[b]?=some o:=by
 show(w.heap.setIfInBounds b o)[b]?=_;grind
def IY{E:TypeId}{z:gP}(n:prog.underlying T=some (.map 9 E))(y:∀w,(zeroValue E).run prog w=.ok z w)(h:tP w b L)(k:O):
  (Instr.lookup T (.map (some b)) (Y k) false).run prog w=.ok ((Bw L k).getD z) w:=by
 have⟨es,clock,ha,hl⟩:=h;have q:∀x,(Instr.checkKey x 10000 9 (Y k)).run prog w=.ok () w:=λx=>rfl;have d:=RY k es.toList L 0 hl;have m:=UV L k 0;cases hq:cY L k 0 with
 |none=>
  rw[hq]at d m;rw[<-m];simp[Instr.lookup,gy n,ahu ha,q,Instr.findKey,d,y]
 |some p=>
  rw[hq]at d m;rw[<-m];simp[Instr.lookup,gy n,ahu ha,q,Instr.findKey,d]
theorem Ws{E:TypeId}(I:prog.underlying T=some (.map 9 E))(h:tP w b L)(k:O)(v:gP):
  ∃w',(Instr.mapUpdate T (.map (some b)) (Y k) v).run prog w=.ok () w'/\tP w' b (EP L k v)/\Z [b] w w'/\w'.heap.size=w.heap.size:=by
 have m:=h.lt;have⟨es,clock,ha,hl⟩:=h;have U:∀x,(Instr.checkKey x 10000 9 (Y k)).run prog w=.ok () w:=λx=>by
  unfold Instr.checkKey;simp
 have q:=RY k es.toList L 0 hl;cases hq:cY L k 0 with
 |none=>
  rw[hq]at q;refine⟨setBlock w b (.map (es.push {key:=Y k,val:=v,born:=clock}) (clock+1)),?_,⟨_,_,GV m _,?_⟩,Cg (Z.refl _ _) (.inl (by simp)) _,?_⟩;simp[Instr.mapUpdate,gy I,ahu ha,U,Instr.findKey,(gy underlying9 _),q,setObj,Sem.run,ha,setBlock,Result.andThen];grind[UW,de,df];show(w.heap.setIfInBounds b _).size=_;simp
 |some p=>
  have⟨j,u⟩:=p;rw[hq]at q;have⟨n,hj,hn,hkey,hput⟩:=UX L k 0 j u v hq;have D:j=n:=by omega
  subst D;have a0:es.size=L.length:=by have:=DZ List.length hl;simpa using this
  have y:(es[j]?).map (·.key)=some (Y k):=by
   have d:(es.toList.map de)[j]?=(L.map df)[j]?:=by rw[hl]
   rw[List.getElem?_map,List.getElem?_map]at d;rw[qo]at d;rw[yG hn]at hkey d;rw[jC (by omega)]at d|-;simp[de,df]at d hkey|-;rw[d.1,hkey]
  refine⟨setBlock w b (.map (es.modify j λe=>{e with key:=Y k,val:=v}) clock),?_,⟨_,_,GV m _,?_⟩,Cg (Z.refl _ _) (.inl (by simp)) _,?_⟩;have hs:(Instr.keyThatStays (((es[j]?).map (·.key)).getD (Y k)) (Y k)).run prog w=.ok (Y k) w:=by
   rw[y];have H:(k==k)=true:=by rw[aai];exact sA.2 rfl
   simp[Instr.keyThatStays,Instr.sameBits,H]
  simp[Instr.mapUpdate,gy I,ahu ha,U,Instr.findKey,(gy underlying9 _),q,hs,setObj,Sem.run,ha,setBlock,Result.andThen];rw[hput];apply List.ext_getElem?;intro i;have d:(es.toList.map de)[i]?=(L.map df)[i]?:=by rw[hl]
  grind[de,df];show(w.heap.setIfInBounds b _).size=_;simp
section
variable {P:Program}{ops:Array Oper}{Q:Exit->Act->J->Prop}{md:Region.Mode}
theorem Jb{I:Array Bool->Act->J->Prop}
  (D:∀d a w i,I d a w->i∈Region.ready md ops d->wpOp P ops Q i (I (d.setIfInBounds i true)) a w)
  (q:∀d a w,I d a w->Region.ready md ops d=[]->Q .normal a w):
  ∀m d a w,((List.range ops.size).filter (λi=>!d.getD i true)).length<=m->I d a w->wpAny P md ops Q m d a w:=by
 intro m
 induction m with
 |zero=>
  intro d a w hn U;have h0:(List.range ops.size).filter (λi=>!d.getD i true)=[]:=TE (by omega);have hr:Region.ready md ops d=[]:=by
   unfold Region.ready;rw[abx]at h0|-;intro i y hc;apply h0 i y;rw[xh]at hc;exact hc.1
  exact⟨hr,q _ _ _ U hr⟩
 |succ n ih=>
  intro d a w hn U;refine⟨q _ _ _ U,λi y=>wpOp_mono (λa' w' h'=>ih _ a' w' ?_ h') (D _ _ _ i U y)⟩;have H:i∈(List.range ops.size).filter (λi=>!d.getD i true):=by
   unfold Region.ready at y;rw[Xv,xh]at y;exact List.mem_filter.2 ⟨y.1,y.2.1⟩
  have hl:d.getD i true=false:=by
   have:=(List.mem_filter.1 H).2
   simpa using this
  have a0:i<d.size:=by
   apply Decidable.byContradiction;intro h;rw[Xw,Ho (by omega)]at hl;simp at hl
  have e:(List.range ops.size).filter (λj=>!(d.setIfInBounds i true).getD j true)=((List.range ops.size).filter (λj=>!d.getD j true)).filter (λj=>j != i):=by
   rw[List.filter_filter];refine List.filter_congr λj _=>?_;by_cases hj:j=i;simp_all;have:i≠j:=λh=>hj h.symm;simp_all
  rw[e];have:(((List.range ops.size).filter (λj=>!d.getD j true)).filter (λj=>j != i)).length<((List.range ops.size).filter (λj=>!d.getD j true)).length:=by
   rw[List.length_filter_lt_length_iff_exists];exact⟨i,H,by simp⟩
  omega
end
def dn(z:Array Bool)(k:Nat):Bool:=z.getD k true
def cd(z:Array Bool)(k:Nat)(v:gP):gP:=cond (dn z k) v undef
def wR(md:Region.Mode)(ops:Array Oper)(i:Nat):List Nat:=
 match ops[i]? with|some o=>(o.after.toList.filter (Region.binds md)).map (·.on)|none=>[]
theorem pX:dn (z.setIfInBounds k true) k=true:=by
 simp[dn]
theorem lY(h:k≠j):dn (z.setIfInBounds k true) j=dn z j:=getD_set_ne true h
theorem qA{p:Prop}(h:dn z j=true->p)(d:k≠j):dn (z.setIfInBounds k true) j=true->p:=by
 grind[lY]
theorem lH(h:dn z k=true):cd z k v=v:=by grind[cd]
theorem aku(h:dn z k=false):cd z k v=undef:=by grind[cd]
def pr:cd (z.setIfInBounds k true) k v=v:=lH pX
theorem wy(h:k≠j):cd (z.setIfInBounds k true) j v=cd z j v:=by
 grind[lY,cd]
def ce(z:Array Bool)(k:Nat)(u v:gP):gP:=cond (dn z k) v u
theorem yd(h:dn z k=true):ce z k u v=v:=by grind[ce]
def xl:ce (z.setIfInBounds k true) k u v=v:=yd pX
theorem FJ(h:k≠j):ce (z.setIfInBounds k true) j u v=ce z j u v:=by
 grind[lY,ce]
theorem vO{n:Nat}:dn (Array.replicate n true) k=true:=by
 unfold dn;rw[Xw];grind
def vJ{n:Nat}:cd (Array.replicate n true) k v=v:=lH vO
def RD{n:Nat}:ce (Array.replicate n true) k u v=v:=yd vO
def mg{p:Nat->Prop}:∀k<0,p k:=λ_ h=>absurd h (Nat.not_lt_zero _)
theorem mf{p:Nat->Prop}{n:Nat}(t:∀k<n,p k)(h:p n):∀k<n+1,p k:=λk d=>by
 grind
def Bs(z:Array Bool)(i:Nat):List Nat->Prop
 |[]=>dn z i=false
 |j::l=>dn z j=true/\Bs z i l
def aae(h:z.getD i true=false):∀{l:List Nat},(∀j∈l,z.getD j true=true)->Bs z i l
 |[],_=>h
 |j::l,hl=>⟨hl j (N1 ..),aae h λk d=>hl k (abv _ d)⟩
def Ap(md:Region.Mode)(ops:Array Oper):List (List Nat):=(List.range ops.size).map (wR md ops)
def af4:Nat->List (List Nat)->Bool
 |_,[]=>true
 |i,l::ls=>l.all (· < i)&&af4 (i+1) ls
theorem aaQ:∀{d:List (List Nat)} {i k:Nat} {l:List Nat},af4 i d=true->d[k]?=some l->∀j∈l,j<i+k
 |l'::d,i,0,l,h,hk,j,hj=>by
  grind[af4]
 |l'::d,i,k+1,l,h,hk,j,hj=>by
  simp[af4]at h;have:=aaQ (k:=k) h.2 (by grind) j hj;omega
def aid:List (List Nat)->List (List Nat)->List (List Nat)
 |acc,[]=>acc
 |acc,l::ls=>aid (acc++[(l++l.flatMap λj=>acc.getD j []).eraseDups]) ls
theorem Jw:∀(n d:List (List Nat)),(∀k,dn z k=true->∀j∈d.getD k [],dn z j=true)->
  (∀k l,n[k]?=some l->dn z (d.length+k)=true->∀j∈l,dn z j=true)->∀k,dn z k=true->∀j∈(aid d n).getD k [],dn z j=true
 |[],d,h,_=>h
 |l::n,d,h,hl=>by
  refine Jw n _ ?_ ?_;intro k q j m;rw[aby]at m;by_cases D:k<d.length;rw[ahv D]at m;exact h k q j (by grind);by_cases H:k=d.length;subst H;simp at m;have y:=hl 0 l rfl q;rcases m with m|⟨i,I,m⟩;grind;exact h i (y i I) j (by grind);grind;intro k U q hd j m;refine hl (k+1) U (by grind) ?_ j m;grind
theorem Up:∀(n d:List (List Nat)),(∀k,∀j∈d.getD k [],j<k)->(∀k l,n[k]?=some l->∀j∈l,j<d.length+k)->∀k,∀j∈(aid d n).getD k [],j<k
 |[],d,h,_=>h
 |l::n,d,h,hl=>by
  refine Up n _ ?_ ?_;intro k j m;rw[aby]at m;by_cases H:k<d.length;grind;by_cases q:k=d.length;subst q;simp at m;have D:=hl 0 l rfl;rcases m with m|⟨i,I,m⟩;grind;have:=h i j (by grind);grind;grind;intro k y U j m;have:=hl (k+1) y (by grind) j m;grind
def fB(n:Nat)(md:Region.Mode)(ops:Array Oper)(d:List (List Nat)):Bool:=
 d.length==ops.size&&n==ops.size&&af4 0 (Ap md ops)&&(List.range ops.size).all λi=>(d.getD i []).all λj=>((aid [] (Ap md ops)).getD i []).contains j
section
variable {P:Program}{ops:Array Oper}{Q:Exit->Act->J->Prop}{md:Region.Mode}{Gw:Type}
theorem oT(mk:Gw->Array Bool->Act)(I:Gw->Array Bool->J->Prop)(n:Nat)(q:List (List Nat)){a:Act}{w:J}(g:Gw)
  (a0:fB n md ops q=true) (ha:a=mk g (Array.replicate n false)) (h0:I g (Array.replicate n false) w)
  (hs:∀i<n,∀g z W,I g z W->Bs z i (q.getD i [])->(∀j,i∈q.getD j []->dn z j=false)->
   wpOp P ops Q i (λa W'=>∃g,a=mk g (z.setIfInBounds i true)/\I g (z.setIfInBounds i true) W') (mk g z) W)
  (hd:∀g W,I g (Array.replicate n true) W->Q .normal (mk g (Array.replicate n true)) W):
  wpAny P md ops Q ops.size (Array.replicate ops.size false) a w:=by
 subst ha;simp only[fB,xh,beq_iff_eq,qp,Xy]at a0;have⟨⟨⟨hnd,hn⟩,hl0⟩,hsub⟩:=a0;have a1:∀i<ops.size,∀j∈wR md ops i,j<i:=by
  intro i hi j d;have:=aaQ (i:=0) (k:=i) (l:=wR md ops i) hl0 (by grind[Ap]) j d;omega
 rw[hn]at h0 hs hd|-;have a7:∀i<ops.size,∀j∈q.getD i [],j<i:=by
  intro i hi j d;have h1:=hsub i hi j d;refine Up (Ap md ops) [] (by simp) (λk l D=>?_) i j (by grind);have H:k<ops.size:=by simpa [Ap]using (List.getElem?_eq_some_iff.1 D).1
  have:l=wR md ops k:=by simpa [Ap,H]using D.symm
  subst this
  simpa using a1 k H
 have U:∀z:Array Bool,(∀j,dn z j=true->∀k∈wR md ops j,dn z k=true)->∀i<ops.size,dn z i=true->∀j∈q.getD i [],dn z j=true:=by
  intro z hz i hi hd j d;refine Jw (Ap md ops) [] (by simp) ?_ i hd j (by grind);intro k l D hd j d;have H:k<ops.size:=by simpa [Ap]using (List.getElem?_eq_some_iff.1 D).1
  have:l=wR md ops k:=by simpa [Ap,H]using D.symm
  subst this;exact hz k (by simpa using hd) j d
 have a4:∀z:Array Bool,z.size=ops.size->∀i,i∈Region.ready md ops z->z.getD i true=false/\i<ops.size/\∀j∈wR md ops i,z.getD j true=true:=by
  intro z hz i hi;have⟨a,o,ho,y⟩:=mem_ready.1 hi;refine⟨a,(Array.getElem?_eq_some_iff.1 ho).1,λj d=>?_⟩;simp only[wR,ho,List.mem_map,Xv]at d;obtain⟨e,⟨he,hb⟩,rfl⟩:=d;have h1:=y e (by grind) hb;rw[Xw]at h1|-;cases hx:z[e.on]? with
  |none=>rfl
  |some b=>grind
 refine Jb (I:=λz a W=>(z.size=ops.size/\∀j,dn z j=true->∀k∈wR md ops j,dn z k=true)/\∃g,a=mk g z/\I g z W) ?_ ?_ _ _ _ _ ?_ ⟨⟨by simp,λj d k D=>?_⟩,g,rfl,h0⟩
 .rintro z a W i⟨⟨hz,a3⟩,g,rfl,hI⟩ hi;have⟨a,b,c⟩:=a4 z hz i hi;have a2:∀j,dn (z.setIfInBounds i true) j=true->∀k∈wR md ops j,dn (z.setIfInBounds i true) k=true:=by
   intro j d k D;have:dn z k=true:=by
    by_cases a6:i=j;subst a6;exact c k D;grind[lY]
   by_cases a8:i=k;grind[pX];grind[lY]
  refine wpOp_mono (λa' W' h=>⟨⟨by grind,λj d k D=>?_⟩,h⟩) (hs i b g z W hI (aae a λj d=>?_) λj d=>?_);grind;have hl:=a7 i b j d;have:=U _ a2 i b pX j d
  rwa [lY (by omega)]at this
  rw[<-Bool.not_eq_true];intro a5;by_cases m:j<ops.size;have:=U z a3 j m a5 i d;grind[dn];grind
 .rintro z a W⟨⟨hz,_⟩,g,rfl,hI⟩ hr;have y:∀i,∀j≤i,z.getD j true=true:=by
   intro i
   induction i with
   |zero=>?_
   |succ i ih=>?_
   all_goals
    intro j d;rw[<-Bool.not_eq_false];intro hf;have m:j<ops.size:=by
     rw[<-hz];apply Decidable.byContradiction;intro h;rw[Xw,Ho (by omega)]at hf;simp at hf
    have:j∈Region.ready md ops z:=by
     refine mem_ready.2 ⟨hf,ops[j],by simp,λe he hb=>?_⟩;have hl:=a1 j m e.on (by simp only[wR,jC m,List.mem_map,Xv];grind)
     first
     |omega
     |grind
    grind
  have a9:z=Array.replicate ops.size true:=by
   apply Array.ext;grind;intro i h1 h2;have:=y i i (ic _);rw[Xw,jC h1]at this;grind
  grind
 grind;by_cases m:j<ops.size;simp[dn,m]at d;grind[wR]
end
inductive Nd
 |el (k:Nat)
 |tx (k:Nat)
 |cm (k:Nat)
 |dt (k:Nat)
variable {ns:List Nd}
def Nd.val:Nd->gP
 | .el k=> .iface 66 (gI k)
 | .tx k=> .iface 274 (gI k)
 | .cm k=> .iface 230 (gI k)
 | .dt k=> .iface 234 (gI k)
theorem Nd.one(n:Nd):n.val.oneCell'=true:=by cases n<;>rfl
theorem aaU(ns:List Nd):∀x∈ns.map Nd.val,x.oneCell'=true:=by
 grind[Nd.one]
structure El(base:Nat)(w:J)(k:Nat)(name:O)(av:gP)(ji:jj)(kv:gP)(ns:List Nd):Prop where
 il:w.heap[k]?=some (gH #[Y name,av,kX ji,kv] 136)
 row:w.ownsRow base 138 1 kv ns.length (ns.map Nd.val)
 le:ns.length<=1048576
 aG:∃ao n c,av=.slice ao n c
theorem El.rR(h:El base w k name av ji kv ns)(n:w.heap[b]?=some (gH c t))(y:t≠138):kv.ownBlock≠some b:=by
 intro d;rcases h.row.2 with⟨e,_⟩|⟨g,cap,m,e,_,q,_⟩;rw[e]at d;cases d;rw[e]at d;obtain rfl:=Ki d;grind
theorem El.kept(h:El base w k name av ji kv ns)(d:Z S w w')(m:k∉S)(n:∀g,kv.ownBlock=some g->g∉S):El base w' k name av ji kv ns:=
 ⟨d.at h.il m,d.ownsRow h.row n,h.le,h.aG⟩
abbrev place(k n:Nat):gP:=.agg #[gI k,G n]
def alG(base k:Nat)(name:O)(av kv:gP)(ji:jj)(ns:List Nd)(w:J)(h:El base w k name av ji kv ns):
  Calls prog 90 #[gI k] w λe w'=>e=iA (place k ns.length)/\Z [] w w':=by
 obtain⟨ao,cap,rfl⟩:=gz h.row;have m:=fP h.il 3;dsimp at m;have n:=ja h.il;have d:=(Z.refl [] w).alloc (gH #[gI k,G ns.length] 228);go_enter func90,ntmps90;go_wp2;refine uF ?_ rfl ⟨rfl,d⟩;simp[results,results90,asAddr,Result.andThen,go_sem]
def Lz(base k:Nat)(name:O)(av kv:gP)(ji:jj)(ns:List Nd)(w:J)(h:El base w k name av ji kv ns):
  Calls prog 266 #[gI k] w λe w'=>e=iA (gI w.heap.size)/\El base w' w.heap.size name av none (jD) []/\Z [] w w':=by
 have D:w.drew.cell? ⟨k,0,none⟩=some (Y name):=by show w.cell? _=_;rw[fP h.il];rfl
 have H:w.drew.cell? ⟨k,1,none⟩=some av:=by show w.cell? _=_;rw[fP h.il];rfl
 have m:=(Z.refl [] w).drew.alloc (gH #[Y name,av,.pointer none,jD] 136);have d:=(show El base _ w.heap.size name av none (jD) []from⟨fU w.drew _,pP _ _ _ _,by simp,h.aG⟩);obtain⟨n,y,q,rfl⟩:=h.aG;go_enter func266,ntmps266;go_wp21;go_region;go_wp2;go_ret;exact⟨rfl,d,m⟩
theorem El.abd{d:gP}{m:List Nd}(h:El base w k name av ji kv ns)(H:w'.heap[k]?=w.heap[k]?)(y:w'.ownsRow base 138 1 d m.length (m.map Nd.val))(I:m.length<=1048576):El base (w'.setCell ⟨k,3,none⟩ d) k name av ji d m:=by
 have q:=H.trans h.il;refine⟨gh q 3 d,rF y ?_ _,I,h.aG⟩;intro n;rcases y.2 with⟨e,_⟩|⟨g,cap,D,e,_,U,_⟩;rw[e]at n;cases n;rw[e]at n;obtain rfl:=Ki n;grind
def El.agX(h:El base w k name av ji kv ns)(p:jj):El base (w.setCell ⟨k,2,none⟩ (kX p)) k name av p kv ns:=
 ⟨gh h.il 2 _,rF h.row (h.rR h.il (by decide)) _,h.le,h.aG⟩
def lR{a:Addr}(h:b≠a.block):(w.setCell a u).cell? ⟨b,j,none⟩=w.cell? ⟨b,j,none⟩:=ahr (Below.heap_setCell w a u b h)
def abk{X e:TypeId}(d:prog.underlying X=some (.pointer e))(v:gP)(h:TypeId)(w:J):(Instr.typeAssert (.iface X v) h X true).run prog w=.ok (.tuple #[v,.bool true]) w:=by
 simp[Instr.typeAssert,gy d]
def I7{X e:TypeId}(m:prog.underlying X=some (.pointer e))(h:(prog.info? X).bind (·.zero)=some (.pointer none))(d:T≠X)(v:gP)(n:TypeId)(w:J):(Instr.typeAssert (.iface T v) n X true).run prog w=.ok (.tuple #[.pointer none,.bool false]) w:=by
 have⟨i,hi,h⟩:=Option.bind_eq_some_iff.1 h;simp[Instr.typeAssert,gy m,d,zeroValue,typeInfo,hi,h]
structure aed(base k:Nat)(name:O)(av kv:gP)(ji:jj)(ns:List Nd)(w w':J):Prop where
 ex:∃kv',El base w' k name av ji kv' ns/\(kv'.ownBlock=kv.ownBlock\/∀g,kv'.ownBlock=some g->w.heap.size<=g)
 kept:Z (k::kv.ownBlock.toList) w w'
def TW(base k n:Nat)(name:O)(av:gP)(ji:jj)(ao:Option Addr)(cap:Nat)(ns:List Nd)(x:Nd)(y:TypeId)(q:gP)(w w1:J)(b10 b11 m:Bool)(d:gP)(W:J):Prop:=
 if m then aed base k name av (.slice ao ns.length cap) ji (ns.take n++[x]++ns.drop n) w W/\W.heap[w.heap.size]?=some (gH #[gI k,G n] 228)
 else if b11 then W.ownsRow base 138 1 d (ns.length+1) ((ns.map Nd.val).take n++[.iface y q]++(ns.map Nd.val).drop n)/\Z (Value.slice ao ns.length cap).ownBlock.toList w1 W/\(d.ownBlock=(Value.slice ao ns.length cap).ownBlock\/∀g,d.ownBlock=some g->w1.heap.size+1<=g)
 else if b10 then ∃h,Z [] w1 h/\h.heap.size=w1.heap.size/\W=h.alloc (gH #[.iface y q] 138)
 else Z [] w1 W/\W.heap.size=w1.heap.size
theorem TW.il{n:Nat}{x:Nd}{I:TypeId}{H:gP}{b10 b11 d:Bool}{q:gP}(h:TW base k n name av ji ao cap ns x I H w w1 b10 b11 d q W)(m:w1.heap[w.heap.size]?=some (gH #[gI k,G n] 228))(y:w.heap.size∉(Value.slice ao ns.length cap).ownBlock.toList):W.heap[w.heap.size]?=some (gH #[gI k,G n] 228):=by
 unfold TW at h;split at h;exact h.2;split at h;exact h.2.1.at m y;split at h;obtain⟨U,D,_,rfl⟩:=h;exact(D.alloc _).at m (by simp);exact h.1.at m (by simp)
theorem TW.old{n:Nat}{x:Nd}{q:TypeId}{m:gP}{b10:Bool}{d:gP}(h:TW base k n name av ji ao cap ns x q m w w1 b10 false false d W):Z [] w1 W:=by
 unfold TW at h;grind[Z.alloc]
theorem ajv{n:Nat}{h d:J}(D:Z [] w1 h)(I:h.heap.size=w1.heap.size)(y:W=h.alloc (gH #[u] 138))(q:d.ownsRow base 138 1 v' (ns.length+1) ((ns.map Nd.val).take n++[u]++(ns.map Nd.val).drop n))(m:Z (Value.slice ao ns.length cap).ownBlock.toList W d)(H:v'.ownBlock=(Value.slice ao ns.length cap).ownBlock\/∀k,v'.ownBlock=some k->W.heap.size<=k):
  d.ownsRow base 138 1 v' (ns.length+1) ((ns.map Nd.val).take n++[u]++(ns.map Nd.val).drop n)/\Z (Value.slice ao ns.length cap).ownBlock.toList w1 d/\(v'.ownBlock=(Value.slice ao ns.length cap).ownBlock\/∀g,v'.ownBlock=some g->w1.heap.size+1<=g):=by
 subst y;refine⟨q,((D.alloc _).mono (by simp)).trans m,?_⟩;simp_all
theorem aju{n:Nat}{h:Option Addr}{d:Nat}{x:Nd}(m:El base w1 k name av ji (.slice ao ns.length cap) ns)(k1:Z [] w w1)(z1:w1.heap.size=w.heap.size+1)(hg:w1.heap[w.heap.size]?=some (gH #[gI k,G n] 228))(H:k∉(Value.slice ao ns.length cap).ownBlock.toList)(D:w.heap.size∉(Value.slice ao ns.length cap).ownBlock.toList)(hn:n<=ns.length)(hl:ns.length<1048576)(a1:w.heap.size≠k)(I:x.val=u)
  (ho:W.ownsRow base 138 1 (.slice h (ns.length+1) d) (ns.length+1) ((ns.map Nd.val).take n++[u]++(ns.map Nd.val).drop n)) (q:Z (Value.slice ao ns.length cap).ownBlock.toList w1 W) (hf:(Value.slice h (ns.length+1) d).ownBlock=(Value.slice ao ns.length cap).ownBlock\/∀g,(Value.slice h (ns.length+1) d).ownBlock=some g->w1.heap.size+1<=g):
  aed base k name av (.slice ao ns.length cap) ji (ns.take n++[x]++ns.drop n) w (W.setCell ⟨k,3,none⟩ (.slice h (ns.length+1) d))/\(W.setCell ⟨k,3,none⟩ (.slice h (ns.length+1) d)).heap[w.heap.size]?=some (gH #[gI k,G n] 228):=by
 have U:(ns.take n++[x]++ns.drop n).length=ns.length+1:=by grind
 have a0:(ns.take n++[x]++ns.drop n).map Nd.val=(ns.map Nd.val).take n++[u]++(ns.map Nd.val).drop n:=by simp[I]
 have g2:=q.at hg D;refine⟨⟨⟨.slice h _ d,m.abd ((q.at m.il H).trans m.il.symm) (by grind) (by omega),?_⟩,(((k1.mono (by simp)).next q (λy hy=> .inl (abv _ hy))).setCell (.inl (by simp)) _)⟩,?_⟩;grind;grind[Below.heap_setCell]
theorem aa1(base k n:Nat)(name:O)(av kv:gP)(ji:jj)(ns:List Nd)(x:Nd)(w:J)(h:El base w k name av ji kv ns)(a4:n<=ns.length)(hl:ns.length<1048576)(hb:base<=w.heap.size)(aj:J->Prop)
  (hZ:∀wc,aed base k name av kv ji (ns.take n++[x]++ns.drop n) w wc->match x with
   | .el j=>(∃p,wc.cell? ⟨j,2,none⟩=some p)/\wc.frozen? ⟨j,2,none⟩=false/\aj (wc.setCell ⟨j,2,none⟩ (gI k))
   |_=>aj wc):
  Calls prog 166 #[place k n,x.val] w λe w'=>e=qs/\aj w':=by
 have ai:=ja h.il;have a5:=h.row.lt;obtain⟨w1,hw1⟩:∃w1,w1=w.alloc (gH #[gI k,G n] 228):=⟨_,rfl⟩;have k1:Z [] w w1:=by rw[hw1];exact(Z.refl _ _).alloc _
 have g1:w1.heap[w.heap.size]?=some (gH #[gI k,G n] 228):=by rw[hw1];exact fU w _
 have z1:w1.heap.size=w.heap.size+1:=by rw[hw1];simp
 have h1:=h.kept k1 (by simp) (by simp);obtain⟨ao,cap,rfl⟩:=gz h.row;have HI:∀W,Z [] w1 W->W.heap.size=w1.heap.size->Calls prog 257 #[.slice ao ns.length cap,G n,nX w1.heap.size 1 1] (W.alloc (gH #[x.val] 138)) (ad9 138 base (.slice ao ns.length cap) ns.length n (ns.map Nd.val) x.val (W.alloc (gH #[x.val] 138))):=by
  intro W kW zW;have k2:Z [] w1 (W.alloc (gH #[x.val] 138)):=kW.alloc _;have g2:=fU W (gH #[x.val] 138);rw[zW]at g2;exact aky (.inr ⟨rfl,rfl,rfl,rfl,rfl,rfl⟩) base ns.length n w1.heap.size _ x.val (ns.map Nd.val) _ (k2.ownsRow h1.row (λ_ _=>by simp)) g2 (λe=>by grind) x.one (aaU ns) a4 h.le (by grind)
 have m:=V hZ;have H1:=V h1;have H:=V HI;have a6:=V k1;have a0:=V g1;have a8:=V z1;have af:=V a5;have a2:=V (show k∉(Value.slice ao ns.length cap).ownBlock.toList by simpa using h1.rR h1.il (by decide));have a1:=V (show w.heap.size∉(Value.slice ao ns.length cap).ownBlock.toList by grind);have ad:w.heap.size≠k:=by omega
 have a7:=V hw1;clear h h1 HI hZ k1 g1 z1 a5 hw1;obtain⟨xt,U,d⟩:∃xt U,x.val=.iface xt U:=by cases x<;>exact⟨_,_,rfl⟩
 rw[d]at H|-;go_enter func166,ntmps166;go_wp21;rw[<-a7.out]
 go_cut []from 6 to 19 (λwc=>aed base k name av (.slice ao ns.length cap) ji (ns.take n++[x]++ns.drop n) w wc/\wc.heap[w.heap.size]?=some (gH #[gI k,G n] 228))
 case first=>
  refine Xz (by rfl) ?_;refine oT (λ(g:gP) z=>⟨#[place k n,.iface xt U,gI w.heap.size,undef,undef,undef,cd z 0 (gI w.heap.size),cd z 1 (gI k),cd z 2 (gI w.heap.size),cd z 3 (gI k),cd z 4 (gI k),cd z 5 (j5 k 3),cd z 6 (.slice ao ns.length cap),cd z 7 (j5 w.heap.size 1),cd z 8 (G n),cd z 9 (.iface xt U),cd z 10 (nX w1.heap.size 1 1),cd z 11 (g),cd z 12 (gI k),cd z 13 (j5 k 3),undef,undef,undef,undef,undef,undef,undef,undef,undef,undef,undef],[]⟩) (λg z W=>TW base k n name av ji ao cap ns x xt U w w1 (dn z 10) (dn z 11) (dn z 14) g W) 15 [[],[0],[],[2],[3],[4],[5],[],[7],[],[9],[2,3,4,5,6,7,8,9,10],[1],[12],[0,1,2,3,4,5,6,7,8,9,10,11,12,13]] (undef) rfl (by rfl) (⟨(Z.refl [] w1).drew,rfl⟩) ?_ ?_
  .repeat' first|exact mg|refine mf ?_ ?_
   all_goals
    rintro g z W hI hc hn;simp[Bs]at hc;refine N2 rfl ?_;intro K' D;simp only[lH,hc];have gB:=hI.il a0 a1;have ag:W.cell? ⟨w.heap.size,0,none⟩=some (gI k):=by rw[fP gB];rfl
    have ah:W.cell? ⟨w.heap.size,1,none⟩=some (G n):=by rw[fP gB];rfl
    have q:=hI
    try simp only[hc]at q
    try rw[hn 14 (by decide)]at q
    try rw[hn 11 (by decide)]at q
    try (have cK:W.cell? ⟨k,3,none⟩=some (.slice ao ns.length cap):=(by rw[fP (q.old.at H1.out.il (by simp))];rfl))
    go_simp
    first
    |refine D _ _ ⟨g,?_,(by rw[lY (by decide),lY (by decide),lY (by decide)];exact hI)⟩
    |have q:Z [] w1 W/\W.heap.size=w1.heap.size:=q;refine D _ _ ⟨g,?_,(by rw[pX,lY (by decide),lY (by decide),hn 11 (by decide),hn 14 (by decide)];grind[TW])⟩;simp[pr,wy,lH,hc,q.2]
    |obtain⟨W0,q1,q2,hq⟩:∃W0,Z [] w1 W0/\W0.heap.size=w1.heap.size/\W=W0.alloc (gH #[.iface xt U] 138):=q;have C:=V (H W0 q1 q2);rw[<-hq]at C;refine C.mono ?_;rintro e W2⟨v',rfl,ae,ac,ab⟩;refine D _ _ ⟨v',?_,(by rw[pX,lY (by decide),lY (by decide),hn 14 (by decide)];exact ajv q1 q2 hq ae ac ab)⟩
    |obtain⟨ho,hk,hf⟩:W.ownsRow base 138 1 g (ns.length+1) ((ns.map Nd.val).take n++[Value.iface xt U]++(ns.map Nd.val).drop n)/\Z (Value.slice ao ns.length cap).ownBlock.toList w1 W/\(g.ownBlock=(Value.slice ao ns.length cap).ownBlock\/∀b,g.ownBlock=some b->w1.heap.size+1<=b):=q;obtain⟨a9,a3,rfl⟩:=gz ho;have gK:=hk.at H1.il a2;have cK:W.cell? ⟨k,3,none⟩=some (.slice ao ns.length cap):=(by rw[fP gK];rfl);have zK:=gx gK 3;go_simp;refine D _ _ ⟨.slice a9 (ns.length+1) a3,?_,(by rw[pX];exact aju H1 a6 a8 a0 a2 a1 a4 hl ad d ho hk hf)⟩
    all_goals simp[pr,wy,lH,hc]
  .rintro g W hI;rw[vO,vO,vO]at hI;simp only[vJ];rename_i JJ aa;refine aa _ _ ?_;go_meet;exact hI
 case rest=>
  have⟨hp,hbx⟩:=hcut;have y:=m _ hp;clear hp H H1 m;cases x with
  |el j=>
   have⟨⟨p,c2⟩,fz,y⟩:=y;have m:=V y;injection d with e1 e2;subst e1 e2;have cb:wc.cell? ⟨w.heap.size,0,none⟩=some (gI k):=by rw[fP hbx];rfl
   have I:=abk (X:=66) underlying66;clear hbx y;go_wp2;go_end0;exact⟨rfl,m⟩
  |tx j=>
   have m:=V y;injection d with e1 e2;subst e1 e2;have I:=I7 (X:=66) (T:=274) underlying66 rfl (by decide);clear y;go_wp2;go_end0;exact⟨rfl,m⟩
  |cm j=>
   have m:=V y;injection d with e1 e2;subst e1 e2;have I:=I7 (X:=66) (T:=230) underlying66 rfl (by decide);clear y;go_wp2;go_end0;exact⟨rfl,m⟩
  |dt j=>
   have m:=V y;injection d with e1 e2;subst e1 e2;have I:=I7 (X:=66) (T:=234) underlying66 rfl (by decide);clear y;go_wp2;go_end0;exact⟨rfl,m⟩
theorem agI(base k n:Nat)(name:O)(av kv:gP)(ji:jj)(ns:List Nd)(x:Nd)(w:J)(h:El base w k name av ji kv ns)(q:n<=ns.length)(m:ns.length<1048576)(d:base<=w.heap.size)(D:∀j,x≠ .el j):
  Calls prog 166 #[place k n,x.val] w λe w'=>e=qs/\aed base k name av kv ji (ns.take n++[x]++ns.drop n) w w':=by
 refine aa1 base k n name av kv ji ns x w h q m d _ λwc y=>?_;grind
theorem Zs(base k n j:Nat)(name H:O)(av kv q m:gP)(ji U:jj)(ns I:List Nd)(w:J)(h:El base w k name av ji kv ns)(hj:El base w j H q U m I)(a0:j≠k)(a3:∀g,m.ownBlock=some g->kv.ownBlock≠some g)(hn:n<=ns.length)(hl:ns.length<1048576)(hb:base<=w.heap.size):
  Calls prog 166 #[place k n,(Nd.el j).val] w λe w'=>e=qs/\(∃d,El base w' k name av ji d (ns.take n++[.el j]++ns.drop n)/\(d.ownBlock=kv.ownBlock\/∀g,d.ownBlock=some g->w.heap.size<=g))/\El base w' j H q (some k) m I/\Z (j::k::kv.ownBlock.toList) w w':=by
 refine aa1 base k n name av kv ji ns _ w h hn hl hb _ λwc hp=>?_;have a2:∀g,m.ownBlock=some g->g∉k::kv.ownBlock.toList:=by
  intro g hg D;rcases List.mem_cons.1 D with rfl|D;exact hj.rR h.il (by decide) hg;grind
 have a1:j∉k::kv.ownBlock.toList:=by
  intro D;rcases List.mem_cons.1 D with e|D;omega;exact h.rR hj.il (by decide) (by grind)
 have J2:=hj.kept hp.kept a1 a2;have⟨d,E2,f2⟩:=hp.ex;have E3:El base (wc.setCell _ (kX (some k))) k name av ji d _:=
  ⟨by rw[Below.heap_setCell wc ⟨j,2,none⟩ _ k (yZ a0)];exact E2.il,rF E2.row (E2.rR J2.il (by decide)) _,E2.le,E2.aG⟩
 exact⟨⟨_,(by rw[fP J2.il];rfl)⟩,(gx J2.il 2),⟨d,E3,f2⟩,J2.agX (some k),(hp.kept.mono (λy hy _=>abv _ hy)).setCell (.inl (by simp)) _⟩
inductive Tn
 |el (name:O) (gG:lu) (kids:List Tn)
 |tx (s:O)
 |cm (s:O)
 |dt (s:O)
inductive Ev
 |dt (s:O)
 |cm (s:O)
 |tx (s:O)
 |enter (name:O) (gG:lu)
 |xg (name:O)
variable {tot:List Ev}
mutual
def Fm(vd:O->Bool):Tn->List Ev
 | .el name gG ks=> .enter name gG::(if vd name then []else uS vd ks++[.xg name])
 | .tx s=>[.tx s]
 | .cm s=>[.cm s]
 | .dt s=>[.dt s]
def uS(vd:O->Bool):List Tn->List Ev
 |[]=>[]
 |t::ts=>Fm vd t++uS vd ts
end
abbrev F1(gG:lu):List gP:=gG.flatMap λa=>[Y a.1,Y a.2]
abbrev vH(w:J)(v:gP)(gG:lu):Prop:=w.ownsRow 0 292 2 v gG.length (F1 gG)
mutual
def jQ(w:J):Tn->Nd->Prop
 | .el name gG ks,.el k=>∃av ji kv ns,El 0 w k name av ji kv ns/\vH w av gG/\gG.length<=4096/\sg w ks ns
 | .tx s,.tx k=>w.heap[k]?=some (gH #[Y s] 277)
 | .cm s,.cm k=>w.heap[k]?=some (gH #[Y s] 232)
 | .dt s,.dt k=>w.heap[k]?=some (gH #[Y s] 236)
 |_,_=>False
def sg(w:J):List Tn->List Nd->Prop
 |[],[]=>True
 |t::ts,n::ns=>jQ w t n/\sg w ts ns
 |_,_=>False
end
theorem sg.len:∀{d:List Tn} {ns:List Nd},sg w d ns->d.length=ns.length
 |[],[],_=>rfl
 |_::_,_::_,h=>by unfold sg at h;simp[sg.len h.2]
 |[],_::_,h=>by unfold sg at h;grind
 |_::_,[],h=>by unfold sg at h;grind
theorem sg.get:∀{d:List Tn} {ns:List Nd} (_:sg w d ns) (k:Nat) (m:k<d.length) (n:k<ns.length),jQ w d[k] ns[k]
 |[],_,_,_,m,_=>by grind
 |_::_,[],h,_,_,_=>by grind
 |_::_,_::_,h,0,_,_=>by unfold sg at h;exact h.1
 |_::_,_::_,h,k+1,m,n=>by
  unfold sg at h;exact sg.get h.2 k (by grind) (by grind)
def Eo(vd:O->Bool):∀(a b:List Tn),uS vd (a++b)=uS vd a++uS vd b
 |[],b=>by rfl
 |t::a,b=>by simp[uS,Eo vd a b]
def ait(vd:O->Bool)(t:Tn):uS vd [t]=Fm vd t:=by simp[uS]
def aab(T:TypeId)(x:gP)(m:String)(args:jL)(w0:J)(tot:List Ev)(Ji:List Ev->J->Prop)(d:Ev)(r:gP):Prop:=
 ∃f y,(∀w,(Go.method 493 T x m).run prog w=.ok (f,y) w)/\(∀w,(nilAhead 493 T x m).run prog w=.ok (some false) w)/\(∀args w,(callFunc f args).run prog w=.ok (.enter f args) w)/\
  ∀pre W,Z [] w0 W->Ji pre W->pre++[d] <+:tot->Calls prog f (#[y]++args) W λe W'=>e=iA r/\Ji (pre++[d]) W'/\Z [] w0 W'
structure eJ(T:TypeId)(x:gP)(vd:O->Bool)(tot:List Ev)(w0:J)(Ji:List Ev->J->Prop):Prop where
 mono:∀pre W W',Ji pre W->Z [] W W'->Ji pre W'
 dt:∀s,aab T x "Doctype" #[Y s] w0 tot Ji (.dt s) (.tuple #[])
 cm:∀s,aab T x "Comment" #[Y s] w0 tot Ji (.cm s) (.tuple #[])
 tx:∀s,aab T x "Text" #[Y s] w0 tot Ji (.tx s) (.tuple #[])
 xg:∀s,aab T x "Leave" #[Y s] w0 tot Ji (.xg s) (.tuple #[])
 enter:∃f y,(∀w,(Go.method 493 T x "Enter").run prog w=.ok (f,y) w)/\(∀w,(nilAhead 493 T x "Enter").run prog w=.ok (some false) w)/\(∀args w,(callFunc f args).run prog w=.ok (.enter f args) w)/\
  ∀pre W s av gG,Z [] w0 W->Ji pre W->pre++[.enter s gG] <+:tot->vH W av gG->gG.length<=4096->Calls prog f #[y,Y s,av] W λe W'=>(∃b,e=iA (.bool b)/\(b=(!vd s)\/b=false/\∀p,Ji p W'))/\Ji (pre++[.enter s gG]) W'/\Z [] w0 W'
theorem anZ{x:gP}{Ji:List Ev->J->Prop}(a0:eJ T x vd tot w0 Ji)(k:Nat)(s:O)(pre:List Ev)(W:J)(n:Z [] w0 W)(m:Ji pre W)(I:pre++[.tx s] <+:tot)(D:W.heap[k]?=some (gH #[Y s] 277)):
  Calls prog 436 #[gI k,.iface T x] W λe W'=>e=qs/\Ji (pre++[.tx s]) W'/\Z [] w0 W':=by
 have H:∀(d:Fn)(first cap:jL)(w:J),(Instr.makeFunc d first cap).run prog w=.ok (.func d first cap) w:=λ_ _ _ _=>rfl;have⟨f,y,hm,hna,hcf,hc⟩:=a0.tx s;have C:=(λq=>hc pre (W.drewN q) (n.drewN q) (a0.mono _ _ _ m ((Z.refl _ _).drewN q)) I);have h:=fP D 0;dsimp at h;generalize hJJ:Ji (pre++[.tx s])=U at C|-;go_enter func436,ntmps436;go_wp21
 go_region_with (refine(C _).mono ?_;rintro e W1⟨rfl,h1,h2⟩)
 all_goals (try go_wp2)
 all_goals (go_end0;grind)
theorem aeS{x:gP}{Ji:List Ev->J->Prop}(a0:eJ T x vd tot w0 Ji)(k:Nat)(s:O)(pre:List Ev)(W:J)(n:Z [] w0 W)(m:Ji pre W)(I:pre++[.cm s] <+:tot)(D:W.heap[k]?=some (gH #[Y s] 232)):
  Calls prog 434 #[gI k,.iface T x] W λe W'=>e=qs/\Ji (pre++[.cm s]) W'/\Z [] w0 W':=by
 have H:∀(d:Fn)(first cap:jL)(w:J),(Instr.makeFunc d first cap).run prog w=.ok (.func d first cap) w:=λ_ _ _ _=>rfl;have⟨f,y,hm,hna,hcf,hc⟩:=a0.cm s;have C:=(λq=>hc pre (W.drewN q) (n.drewN q) (a0.mono _ _ _ m ((Z.refl _ _).drewN q)) I);have h:=fP D 0;dsimp at h;generalize hJJ:Ji (pre++[.cm s])=U at C|-;go_enter func434,ntmps434;go_wp21
 go_region_with (refine(C _).mono ?_;rintro e W1⟨rfl,h1,h2⟩)
 all_goals (try go_wp2)
 all_goals (go_end0;grind)
theorem aeY{x:gP}{Ji:List Ev->J->Prop}(a0:eJ T x vd tot w0 Ji)(k:Nat)(s:O)(pre:List Ev)(W:J)(n:Z [] w0 W)(m:Ji pre W)(I:pre++[.dt s] <+:tot)(D:W.heap[k]?=some (gH #[Y s] 236)):
  Calls prog 435 #[gI k,.iface T x] W λe W'=>e=qs/\Ji (pre++[.dt s]) W'/\Z [] w0 W':=by
 have H:∀(d:Fn)(first cap:jL)(w:J),(Instr.makeFunc d first cap).run prog w=.ok (.func d first cap) w:=λ_ _ _ _=>rfl;have⟨f,y,hm,hna,hcf,hc⟩:=a0.dt s;have C:=(λq=>hc pre (W.drewN q) (n.drewN q) (a0.mono _ _ _ m ((Z.refl _ _).drewN q)) I);have h:=fP D 0;dsimp at h;generalize hJJ:Ji (pre++[.dt s])=U at C|-;go_enter func435,ntmps435;go_wp21
 go_region_with (refine(C _).mono ?_;rintro e W1⟨rfl,h1,h2⟩)
 all_goals (try go_wp2)
 all_goals (go_end0;grind)
def afG:(prog.info? 292).map (λi=>(i.zero,i.size,i.bytes))=some (some (.agg #[Y kB,Y kB]),2,32):=by kernel_rfl
theorem RZ(L:lu):(F1 L).length=L.length*2:=by
 induction L with
 |nil=>rfl
 |cons a L ih=>grind
theorem alt(v:gP)(L:lu)(w:J)(d:vH w v L)(hL:L.length<=4096):
  Calls prog 404 #[v] w λe w'=>∃v',e=iA v'/\vH w' v' L/\Z [] w w':=by
 obtain⟨i0,hi,H,I,U⟩:=qz afG;rcases d.2 with⟨rfl,h0⟩|⟨g,cap,a2,rfl,a3,hg,_⟩
 .have hn:=λw=>kH (P:=prog) w 133 292 none 0 0 0 0 underlying133;have:L=[]:=TE h0;subst this;clear d;go_enter func404,ntmps404;go_wp2;go_ret;exact⟨_,rfl,pP _ _ _ _,Z.refl _ _⟩
 .have hn:=λw=>kH (P:=prog) w 133 292 (some ⟨g,0,none⟩) L.length cap 0 0 underlying133;have HO:=V d;have n:=ja hg;have HE:(w.alloc (.cells #[] 292)).ownsRow w.heap.size 292 2 (nX w.heap.size 0 0) 0 []:=
   ⟨rfl,.inr ⟨w.heap.size,0,#[],rfl,ic _,fU w _,ic _,xj _,rfl,rfl⟩⟩
  clear d;go_enter func404,ntmps404;go_wp2_with (at_builtin;refine jB _ rfl _ _ 133 rfl w.heap.size 292 i0 (.agg #[Y kB,Y kB]) 2 32 underlying133 hi H I U rfl (by decide) _ _ _ rfl HE ⟨g,0,none⟩ L.length cap (F1 L) rfl ?c1 ?c2 ?c3 ?c4 ?c5 ?c6 ?_)
  case c1=>exact RZ L
  case c2=>
   intro j u hj;have:=HO.cells (g:=g) rfl j u hj;rw[js]at this|-;rw[<-this];exact XA _ _ _ n
  case c3=>
   intro u D;unfold F1 at D;simp at D;obtain⟨p,q,_,h|h⟩:=D<;>(subst h;rfl)
  case c4=>omega
  case c5=>omega
  case c6=>simp
  intro v' w3 y m a4;have h9:w3.ownsRow w.heap.size 292 2 v' L.length (F1 L):=by simpa using y
  have HF:vH w3 v' L:=by
   refine⟨h9.1,?_⟩;rcases h9.2 with e|⟨g1,a0,a1,e,_,r⟩;exact .inl e;grind
  have HK:Hid (Z [] w w3):=((Z.refl [] w).alloc _).grown m (λx hx=> .inr (HE.lt x hx).1);go_wp2;go_ret;exact⟨_,rfl,HF,HK⟩
theorem vH.kept(h:vH w v gG)(q:Z [] w w'):vH w' v gG:=by
 refine⟨h.1,?_⟩;rcases h.2 with e|⟨g,cap,d,e,m,n,r⟩
 all_goals grind[Z.at]
theorem El.ir(h:El 0 w k name av ji kv ns)(m:Z [] w w'):El 0 w' k name av ji kv ns:=by
 refine⟨m.at h.il (by simp),⟨h.row.1,?_⟩,h.le,h.aG⟩;rcases h.row.2 with e|⟨g,cap,d,e,n,q,r⟩
 all_goals grind[Z.at]
mutual
theorem jQ.kept(d:Z [] w w'):∀{t:Tn} {n:Nd},jQ w t n->jQ w' t n
 | .el name gG ks,.el k,h=>by
  unfold jQ at h|-;have⟨av,ji,kv,ns,h1,h2,h3,h4⟩:=h;exact⟨av,ji,kv,ns,h1.ir d,h2.kept d,h3,sg.kept d h4⟩
 | .tx _,.tx _,h=>by unfold jQ at h|-;exact d.at h (by simp)
 | .cm _,.cm _,h=>by unfold jQ at h|-;exact d.at h (by simp)
 | .dt _,.dt _,h=>by unfold jQ at h|-;exact d.at h (by simp)
 | .el _ _ _,.tx _,h=>by grind[jQ]
 | .el _ _ _,.cm _,h=>by grind[jQ]
 | .el _ _ _,.dt _,h=>by grind[jQ]
 | .tx _,.el _,h=>by grind[jQ]
 | .tx _,.cm _,h=>by grind[jQ]
 | .tx _,.dt _,h=>by grind[jQ]
 | .cm _,.el _,h=>by grind[jQ]
 | .cm _,.tx _,h=>by grind[jQ]
 | .cm _,.dt _,h=>by grind[jQ]
 | .dt _,.el _,h=>by grind[jQ]
 | .dt _,.tx _,h=>by grind[jQ]
 | .dt _,.cm _,h=>by grind[jQ]
theorem sg.kept(m:Z [] w w'):∀{d:List Tn} {ns:List Nd},sg w d ns->sg w' d ns
 |[],[],_=>by simp[sg]
 |t::d,n::ns,h=>by
  unfold sg at h|-;exact⟨jQ.kept m h.1,sg.kept m h.2⟩
 |[],_::_,h=>by grind[sg]
 |_::_,[],h=>by grind[sg]
end
section
variable {T:TypeId}{x:gP}{vd:O->Bool}{tot:List Ev}{w0:J}{Ji:List Ev->J->Prop}
def A4:Nd->Nat
 | .el _=>403
 | .tx _=>436
 | .cm _=>434
 | .dt _=>435
def Nd.bk:Nd->Nat
 | .el k=>k
 | .tx k=>k
 | .cm k=>k
 | .dt k=>k
def KR(T:TypeId)(x:gP)(vd:O->Bool)(tot:List Ev)(w0:J)(Ji:List Ev->J->Prop)(t:Tn)(n:Nd):Prop:=
 ∀pre W,Z [] w0 W->Ji pre W->pre++Fm vd t <+:tot->
  Calls prog (A4 n) #[gI n.bk,.iface T x] W λe W'=>e=qs/\Ji (pre++Fm vd t) W'/\Z [] w0 W'
def Qj(n:Nd)(w:J):∃t y,n.val=.iface t y/\y=gI n.bk/\(∀w,(Go.method 493 t y "Visit").run prog w=.ok (A4 n,y) w):=by
 cases n with
 |el k=>exact⟨_,_,rfl,rfl,λw=>rfl⟩
 |tx k=>exact⟨_,_,rfl,rfl,λw=>rfl⟩
 |cm k=>exact⟨_,_,rfl,rfl,λw=>rfl⟩
 |dt k=>exact⟨_,_,rfl,rfl,λw=>rfl⟩
def ac2(n:Nd):∀d w,(callFunc (A4 n) d).run prog w=.ok (.enter (A4 n) d) w:=by
 cases n with
 |el k=>simp[A4]
 |tx k=>simp[A4]
 |cm k=>simp[A4]
 |dt k=>simp[A4]
theorem Zj{a b c:List Ev}(h:a++(b++c) <+:tot):a++b <+:tot:=by
 have⟨r,hr⟩:=h;grind
theorem Jv(a8:eJ T x vd tot w0 Ji)(k:Nat)(name:O)(av:gP)(ji:jj)(kv:gP)(d:List Tn)(ns:List Nd)(hl:d.length=ns.length)
  (D:El 0 w0 k name av ji kv ns) (hv:∀i (U:i<d.length) (H:i<ns.length),KR T x vd tot w0 Ji d[i] ns[i]) (pre:List Ev) (W:J) (hK:Z [] w0 W) (hJ:Ji pre W) (hp:pre++uS vd d <+:tot):
  Calls prog 33 #[gI k,.iface T x] W λe W'=>e=qs/\Ji (pre++uS vd d) W'/\Z [] w0 W':=by
 have c3:=fP ((D.ir hK).il) 3;dsimp at c3;have a1:=D.le;have⟨ao,cap,hkv⟩:=gz D.row;have HE:=V D;have HV:=hv;have HP:=hp;have HJ:=hJ;have HK:=hK;have HL:=V hl;obtain⟨n,hn⟩:∃n,n=ns.length:=⟨_,rfl⟩;have HN:=V hn;subst hkv;rw[<-hn]at c3 a1;clear D hl hn;go_enter func33,ntmps33;go_wp21
 go_loopw [11] (λv wr=>∃i:Nat,v=G i/\i<=n/\Ji (pre++uS vd (d.take i)) wr/\Z [] w0 wr) (λv _=>n-(intOf v).toNat)
 case atStart=>grind[uS]
 case round=>
  obtain⟨i,rfl,hi,q,h⟩:=hrel;by_cases a2:i<n
  .have H:i<ns.length:=by rw[<-HN.out];exact a2
   have U:i<d.length:=by rw[HL.out];exact H
   have⟨t,y,hval,hy,hm⟩:=Qj ns[i] wr;have a7:=ac2 ns[i];obtain⟨g,a0⟩:∃g,ao=some ⟨g,0,none⟩:=by
    rcases HE.row.2 with⟨e,h0⟩|⟨g,a3,a6,e,_⟩
    all_goals grind
   subst a0;have hc:wr.cell? ⟨g,i,none⟩=some (.iface t y):=by
    have:=(HE.ir h).row.cells (g:=g) rfl i ns[i].val (by simp[H]);rw[js]at this;rw[<-hval]
    simpa using this
   have m:uS vd (d.take (i+1))=uS vd (d.take i)++Fm vd d[i]:=by
    rw[yH,yG U,Eo];simp[ait]
   have a4:pre++uS vd (d.take (i+1)) <+:tot:=by
    refine Zj (c:=uS vd (d.drop (i+1))) ?_;rw[<-Eo,QV];exact HP
   have C:=HV i U H _ wr h q (by grind);rw[vu,<-m]at C;rw[hy]at hc hm;generalize A4 ns[i]=fv at *;generalize ns[i].bk=kb at *;generalize hZ:Ji (pre++uS vd (d.take (i+1)))=a9 at C;have HZ:=V hZ;clear hZ;go_wp21;refine C.mono ?_;rintro e W2⟨rfl,a5,I⟩;go_wp2;go_roundw
   case rel=>grind[Hid.out]
   case measure=>simp[intOf];omega
  .have he:d.take i=d:=NZ (by grind[Hid.out]);rw[he]at q;have I:=h;go_wp2;go_end0;grind
theorem ae1(ag:eJ T x vd tot w0 Ji)(k:Nat)(name:O)(gG:lu)(av:gP)(ji:jj)(kv:gP)(D:List Tn)(ns:List Nd)(hl:D.length=ns.length)
  (hE:El 0 w0 k name av ji kv ns) (hA:vH w0 av gG) (a2:gG.length<=4096) (hv:∀i (h1:i<D.length) (h2:i<ns.length),KR T x vd tot w0 Ji D[i] ns[i]):KR T x vd tot w0 Ji (.el name gG D) (.el k):=by
 intro pre W H hJ hp;show Calls prog 403 #[gI k,.iface T x] W _;have af:∀(fn:Fn)(first cap:jL)(w:J),(Instr.makeFunc fn first cap).run prog w=.ok (.func fn first cap) w:=λ_ _ _ _=>rfl;have c0:=fP ((hE.ir H).il) 0;have c1:=fP ((hE.ir H).il) 1;dsimp at c0 c1;have a6:pre++[.enter name gG] <+:tot:=by
  unfold Fm at hp;exact Zj (b:=[.enter name gG]) (by simpa using hp)
 have⟨f,y,hm,hna,hcf,hc⟩:=ag.enter;have C1:=V (λq=>alt av gG (W.drewN q) ((hA.kept H).kept ((Z.refl _ _).drewN q)) a2);have C2:=V (λq W1 v1 (hk:Z [] (W.drewN q) W1) (ha:vH W1 v1 gG)=>hc pre W1 name v1 gG ((H.drewN q).trans hk) (ag.mono _ _ _ hJ (((Z.refl _ _).drewN q).trans hk)) a6 ha a2);have⟨ao,n,cp,hav⟩:=hE.aG;subst hav;have HV:=V ag;have HE:=V hE;have HW:=V hv;have HP:=V hp;have HL:=V hl;have ac:=V H;clear hc ag H hJ hp a6 hA a2 hE hv hl;go_enter func403,ntmps403;go_wp21
 go_cut [17]from 4 to 16 (λr wc=>(∃b,r=.bool b/\(b=(!vd name)\/b=false/\∀p,Ji p wc))/\Ji (pre++[.enter name gG]) wc/\Z [] w0 wc)
 case first=>
  go_region_with (first
   |(go_at_call 404;refine(C1.out _).mono ?_;rintro e W1⟨v1,rfl,a1,a3⟩;have⟨ao1,cp1,hv1⟩:=gz a1;subst hv1;have a9:=V a1;have ab:=V a3;have c2:W1.cell? ⟨k,0,none⟩=some (Y name):=(by rw[fP (HE.out.ir ((ac.out.drewN _).trans a3)).il];rfl);clear a1 a3)
   |(refine(C2.out _ _ _ ab.out a9.out).mono ?_;rintro e W2⟨⟨bb,rfl,a5⟩,m,d⟩;have aa:=V a5;have U:=V m;have a0:=V d;clear a5 m d))
  all_goals (try (go_wp21))
  all_goals (go_meet;exact⟨⟨bb,rfl,aa.out⟩,U.out,a0.out⟩)
 case rest=>
  obtain⟨⟨bb,rfl,I⟩,hj,hk⟩:=hcut;clear C1 C2 hm hna hcf c0 c1;cases bb with
  |false=>
   replace hj:Ji (pre++Fm vd (.el name gG D)) wc:=by
    rcases I with I|⟨_,I⟩;have a4:vd name=true:=by
     cases h:vd name;grind;rfl
    have he:pre++Fm vd (.el name gG D)=pre++[.enter name gG]:=by simp[Fm,a4]
    rw[he];exact hj;exact I _
   clear I;have HJ:=V hj;have HK:=V hk;clear hj hk;rename_i K H;refine H _ _ ?_;clear H;go_wp2;go_end0;exact⟨rfl,HJ.out,HK.out⟩
  |true=>
   have a4:vd name=false:=by
    rcases I with I|⟨I,_⟩;grind;cases I
   clear I;have he:Fm vd (.el name gG D)=.enter name gG::(uS vd D++[.xg name]):=by simp[Fm,a4]
   have a7:(pre++[.enter name gG])++uS vd D <+:tot:=Zj (c:=[.xg name]) (by have:=HP.out;grind);have a8:(pre++[.enter name gG]++uS vd D)++[.xg name] <+:tot:=by have:=HP.out;rw[he]at this;simpa using this
   have e3:pre++Fm vd (.el name gG D)=(pre++[.enter name gG]++uS vd D)++[.xg name]:=by rw[he];simp
   have C3:=V (Jv HV.out k name _ ji kv D ns HL.out HE.out HW.out _ wc hk hj a7);have⟨f,y,hm,hna,hcf,hc⟩:=HV.out.xg name;have C4:=V (λq W2 (d:Z [] w0 W2) (m:Ji (pre++[.enter name gG]++uS vd D) W2)=>hc _ (W2.drewN q) (d.drewN q) (HV.out.mono _ _ _ m ((Z.refl _ _).drewN q)) a8);rw[<-e3]at C4;clear a7 a8 he e3 hj hk hc;generalize hJJ:Ji (pre++[.enter name gG]++uS vd D)=J1 at C3 C4;clear hJJ;rename_i K H;refine H _ _ ?_;clear H;go_wp21;refine C3.out.mono ?_;rintro e W2⟨rfl,m,d⟩;have c0:=fP ((HE.out.ir d).il) 0;dsimp at c0;have U:=V m;have a0:=V d;clear m d;go_wp21
   go_region_with (refine(C4.out _ _ a0.out U.out).mono ?_;rintro e W3⟨rfl,ad,ae⟩)
   all_goals (try go_wp2)
   all_goals (go_end0;grind)
end
section
variable {T:TypeId}{x:gP}{vd:O->Bool}{tot:List Ev}{w0:J}{Ji:List Ev->J->Prop}
theorem Xm(H:eJ T x vd tot w0 Ji):∀(t:Tn)(n:Nd),jQ w0 t n->KR T x vd tot w0 Ji t n
 | .el name gG ks,.el k,h=>by
  have⟨av,ji,kv,ns,h1,h2,h3,h4⟩:=h;exact ae1 H k name gG av ji kv ks ns h4.len h1 h2 h3 (λi y D=>Xm H ks[i] ns[i] (h4.get i y D))
 | .tx s,.tx k,h=>by
  intro pre W d m q;exact anZ H k s pre W d m q (d.at h (by simp))
 | .cm s,.cm k,h=>by
  intro pre W d m q;exact aeS H k s pre W d m q (d.at h (by simp))
 | .dt s,.dt k,h=>by
  intro pre W d m q;exact aeY H k s pre W d m q (d.at h (by simp))
 | .el _ _ _,.tx _,h=>by grind[jQ]
 | .el _ _ _,.cm _,h=>by grind[jQ]
 | .el _ _ _,.dt _,h=>by grind[jQ]
 | .tx _,.el _,h=>by grind[jQ]
 | .tx _,.cm _,h=>by grind[jQ]
 | .tx _,.dt _,h=>by grind[jQ]
 | .cm _,.el _,h=>by grind[jQ]
 | .cm _,.tx _,h=>by grind[jQ]
 | .cm _,.dt _,h=>by grind[jQ]
 | .dt _,.el _,h=>by grind[jQ]
 | .dt _,.tx _,h=>by grind[jQ]
 | .dt _,.cm _,h=>by grind[jQ]
  termination_by t=>SizeOf.sizeOf t
  decreasing_by
 have:=List.sizeOf_lt_of_mem (wK y);grind
theorem zY(H:eJ T x vd tot w0 Ji)(k:Nat)(name:O)(gG:lu)(d:List Tn)(h:jQ w0 (.el name gG d) (.el k))(q:uS vd d=tot)(W:J)(n:Z [] w0 W)(m:Ji [] W):
  Calls prog 33 #[gI k,.iface T x] W λe W'=>e=qs/\Ji tot W'/\Z [] w0 W':=by
 have⟨av,ji,kv,ns,h1,h2,h3,h4⟩:=h;have:=Jv H k name av ji kv d ns h4.len h1 (λi y D=>Xm H _ _ (h4.get i y D)) [] W n m (by grind)
 rwa [q]at this
end
attribute [local go_sem] Oper.semAt_some
structure It where
 k:Int
 s:O
 t:O
abbrev It.val(x:It):gP:=.agg #[G x.k,Y x.s,Y x.t]
def uZ:Ev->List It
 | .dt s=>[⟨1,s,⟨#[]⟩⟩]
 | .cm s=>[⟨2,s,⟨#[]⟩⟩]
 | .tx s=>[⟨3,s,⟨#[]⟩⟩]
 | .enter s gG=>⟨4,s,⟨#[]⟩⟩::gG.map λa=>⟨5,a.1,a.2⟩
 | .xg s=>[⟨6,s,⟨#[]⟩⟩]
def jY(d:List Ev):List It:=d.flatMap uZ
def Wk(w:J)(b l:Nat)(d:Bool):Prop:=w.heap[b]?=some (gH #[.func (.yield l) #[] #[],.bool d] 199)
theorem qG{m:Nat×Nat}(h:w.heap[b]?=some (.cells c t m))(j:Nat)(v:gP)(d:c[j]?=some v):w.setCell ⟨b,j,none⟩ v=w:=by
 have n:c.setIfInBounds j v=c:=by grind
 have e:∀f,f (.cells c t m)=.cells c t m->w.heap.modify b f=w.heap:=by grind
 unfold World.setCell;simp_all
def KW(W W':J):Prop:=∀(k:Nat)(c:jL)(t:TypeId),W.heap[k]?=some (gH c t)->t∈[199,292]->W'.heap[k]?=some (gH c t)
def KW.wk(h:KW W W'){d:Bool}(m:Wk W b l d):Wk W' b l d:=h b _ _ m (by decide)
theorem KW.dR(h:KW W W')(m:vH W v gG):vH W' v gG:=by
 refine⟨m.1,?_⟩;rcases m.2 with e|⟨g,cap,d,e,n,q,r⟩;grind;exact .inr ⟨g,cap,d,e,n,h g _ _ q (by decide),r⟩
theorem Wk.dR{d:Bool}(h:Wk W b l d)(x:gP)(n:vH W v gG):vH (W.setCell ⟨b,1,none⟩ x) v gG:=by
 refine⟨n.1,?_⟩;rcases n.2 with e|⟨g,cap,m,e,y,q,r⟩;grind;refine .inr ⟨g,cap,m,e,y,((Z.refl [b] W).setCell (.inl (by simp)) _).at q ?_,r⟩;intro D;have e:=List.mem_singleton.1 D;subst e;rw[h]at q;grind
def dO(l:Nat)(tot:List It)(w0:J)(Ji:List It->J->Prop)(JE:J->Prop):Prop:=∀pre x W,Z [] w0 W->Ji pre W->pre++[x] <+:tot->YieldAt Fence.wide 3 prog l #[It.val x] W λe W'=>(e=iA (.bool true)/\Ji (pre++[x]) W'\/e=iA (.bool false)/\JE W')/\Z [] w0 W'/\KW W W'
def JW(l b:Nat)(Ji:List It->J->Prop)(JE:J->Prop)(pre:List It)(W:J):Prop:=(Ji pre W/\Wk W b l false)\/(JE W/\Wk W b l true)
theorem JW.mono{Ji:List It->J->Prop}{JE:J->Prop}(n:∀pre W W',Ji pre W->Z [] W W'->Ji pre W')(m:∀W W',JE W->Z [] W W'->JE W'){pre:List It}(h:JW l b Ji JE pre W)(d:Z [] W W'):JW l b Ji JE pre W':=by
 rcases h with⟨h,k⟩|⟨h,k⟩;exact .inl ⟨n _ _ _ h d,d.at k (by simp)⟩;exact .inr ⟨m _ _ h d,d.at k (by simp)⟩
section
variable {l b:Nat}{tot:List It}{w0:J}{Ji:List It->J->Prop}{JE:J->Prop}
theorem Dx(hY:dO l tot w0 Ji JE)(hb:w0.heap.size<=b)(I:∀a1,Wk a1 b l false->JE a1->JE (a1.setCell ⟨b,1,none⟩ (.bool true)))(pre:List It)(x:It)(W:J)(hK:Z [] w0 W)(H:JW l b Ji JE pre W)(hp:pre++[x] <+:tot):
  Calls prog 433 #[gI b,G x.k,Y x.s,Y x.t] W λe W'=>e=qs/\(JW l b Ji JE (pre++[x]) W'/\Z [] w0 W')/\∀v gG,vH W v gG->vH W' v gG:=by
 refine(XB (n:=4)).1 ?_;rcases H with⟨H,y⟩|⟨H,y⟩
 .have c0:=fP y 0;have c1:=fP y 1;dsimp at c0 c1;have⟨fn,tmps,assign,body,hy,hR⟩:=hY pre x W hK H hp;have HR:=V hR;dsimp only[It.val]at hy;have a0:=ja y;have HW:=V y;have HM:=V I;have HB:=V hb;clear hR hY hK H hp y I hb;have⟨k,s,t⟩:=x;refine callsIn_of_wp func433 rfl trivial ?_ rfl;simp only[ntmps433,abw,pG,Kk,Nat.reduceAdd,Nat.reduceSub,sR,yD,wL,yE,abu,yF];gi_wp2;refine HR.out.mono ?_;rintro e U⟨⟨rfl,q⟩|⟨rfl,q⟩,D,m⟩
  .have d:=m.wk HW.out;have c2:=fP d 1;have f2:=gx d 1;dsimp at c2;have HS:=V (qG d 1 (.bool false) rfl);have HJ:=V (show(JW l b Ji JE (pre++[⟨k,s,t⟩]) U/\Z [] w0 U)/\∀v gG,vH W v gG->vH U v gG from⟨⟨.inl ⟨q,d⟩,D⟩,λ_ _ h=>m.dR h⟩);clear q D m d;gi_wp2;go_end0;grind[Hid.out]
  .have d:=m.wk HW.out;have c2:=fP d 1;have f2:=gx d 1;dsimp at c2;have HJ:=V (show(JW l b Ji JE (pre++[⟨k,s,t⟩]) (U.setCell ⟨b,1,none⟩ (.bool true))/\Z [] w0 (U.setCell ⟨b,1,none⟩ (.bool true)))/\∀v gG,vH W v gG->vH (U.setCell ⟨b,1,none⟩ (.bool true)) v gG from⟨⟨.inr ⟨HM.out _ d q,gh d 1 _⟩,D.setCell (.inr HB.out) _⟩,λ_ _ h=>d.dR _ (m.dR h)⟩);clear q D m d;gi_wp2;go_end0;grind[Hid.out]
 .have c1:=fP y 1;dsimp at c1;have a0:=ja y;have HJ:=V (show(JW l b Ji JE (pre++[x]) W/\Z [] w0 W)/\∀v gG,vH W v gG->vH W v gG from⟨⟨.inr ⟨H,y⟩,hK⟩,λ_ _ h=>h⟩);clear hY hK H hp y I hb;refine callsIn_of_wp func433 rfl trivial ?_ rfl;simp only[ntmps433,abw,pG,Kk,Nat.reduceAdd,Nat.reduceSub,sR,yD,wL,yE,abu,yF];gi_wp2;go_end0;grind[Hid.out]
theorem wdt(n:dO l tot w0 Ji JE)(q:w0.heap.size<=b)(d:∀I,Wk I b l false->JE I->JE (I.setCell ⟨b,1,none⟩ (.bool true)))(s:O)(pre:List It)(W:J)(m:Z [] w0 W)(h:JW l b Ji JE pre W)(y:pre++[⟨1,s,⟨#[]⟩⟩] <+:tot):
  Calls prog 429 #[gI b,Y s] W λe W'=>e=qs/\JW l b Ji JE (pre++[⟨1,s,⟨#[]⟩⟩]) W'/\Z [] w0 W':=by
 go_enter func429,ntmps429;go_wp21;refine(V (Dx n q d pre _ W m h y)).out.mono ?_;rintro e D⟨rfl,H,_⟩;go_wp2;go_end0;grind[Hid.out]
theorem wcm(n:dO l tot w0 Ji JE)(q:w0.heap.size<=b)(d:∀I,Wk I b l false->JE I->JE (I.setCell ⟨b,1,none⟩ (.bool true)))(s:O)(pre:List It)(W:J)(m:Z [] w0 W)(h:JW l b Ji JE pre W)(y:pre++[⟨2,s,⟨#[]⟩⟩] <+:tot):
  Calls prog 428 #[gI b,Y s] W λe W'=>e=qs/\JW l b Ji JE (pre++[⟨2,s,⟨#[]⟩⟩]) W'/\Z [] w0 W':=by
 go_enter func428,ntmps428;go_wp21;refine(V (Dx n q d pre _ W m h y)).out.mono ?_;rintro e D⟨rfl,H,_⟩;go_wp2;go_end0;grind[Hid.out]
theorem wtx(n:dO l tot w0 Ji JE)(q:w0.heap.size<=b)(d:∀I,Wk I b l false->JE I->JE (I.setCell ⟨b,1,none⟩ (.bool true)))(s:O)(pre:List It)(W:J)(m:Z [] w0 W)(h:JW l b Ji JE pre W)(y:pre++[⟨3,s,⟨#[]⟩⟩] <+:tot):
  Calls prog 432 #[gI b,Y s] W λe W'=>e=qs/\JW l b Ji JE (pre++[⟨3,s,⟨#[]⟩⟩]) W'/\Z [] w0 W':=by
 go_enter func432,ntmps432;go_wp21;refine(V (Dx n q d pre _ W m h y)).out.mono ?_;rintro e D⟨rfl,H,_⟩;go_wp2;go_end0;grind[Hid.out]
theorem wlv(n:dO l tot w0 Ji JE)(q:w0.heap.size<=b)(d:∀I,Wk I b l false->JE I->JE (I.setCell ⟨b,1,none⟩ (.bool true)))(s:O)(pre:List It)(W:J)(m:Z [] w0 W)(h:JW l b Ji JE pre W)(y:pre++[⟨6,s,⟨#[]⟩⟩] <+:tot):
  Calls prog 431 #[gI b,Y s] W λe W'=>e=qs/\JW l b Ji JE (pre++[⟨6,s,⟨#[]⟩⟩]) W'/\Z [] w0 W':=by
 go_enter func431,ntmps431;go_wp21;refine(V (Dx n q d pre _ W m h y)).out.mono ?_;rintro e D⟨rfl,H,_⟩;go_wp2;go_end0;grind[Hid.out]
def ahF(a b:List Ev):jY (a++b)=jY a++jY b:=vE ..
def yk{a b:List Ev}(h:a <+:b):jY a <+:jY b:=by
 obtain⟨r,rfl⟩:=h;simp[jY]
theorem PS(L:lu)(i:Nat)(h:i<L.length):(F1 L)[i*2]?=some (Y L[i].1)/\(F1 L)[i*2+1]?=some (Y L[i].2):=by
 induction L generalizing i with
 |nil=>simp at h
 |cons a L ih=>
  cases i<;>grind
theorem wen(hY:dO l tot w0 Ji JE)(hb:w0.heap.size<=b)(U:∀aj,Wk aj b l false->JE aj->JE (aj.setCell ⟨b,1,none⟩ (.bool true)))(hm:∀pre W W',Ji pre W->Z [] W W'->Ji pre W')(a2:∀W W',JE W->Z [] W W'->JE W')(s:O)(av:gP)(gG:lu)(pre:List It)(W:J)(hK:Z [] w0 W)(hJ:JW l b Ji JE pre W)(hp:pre++uZ (.enter s gG) <+:tot)(hA:vH W av gG)(a7:gG.length<=4096):
  Calls prog 430 #[gI b,Y s,av] W λe W'=>(∃d,e=iA (.bool d)/\(d=true\/d=false/\∀p,JW l b Ji JE p W'))/\JW l b Ji JE (pre++uZ (.enter s gG)) W'/\Z [] w0 W':=by
 have a3:pre++[(⟨4,s,⟨#[]⟩⟩:It)] <+:tot:=by
  have⟨r,hr⟩:=hp;exact⟨_,by rw[<-hr];simp[uZ];rfl⟩
 have C:=V (Dx hY hb U pre ⟨4,s,⟨#[]⟩⟩ W hK hJ a3);have⟨ao,cap,hav⟩:=gz hA;have HA:=V hA;have HP:=V hp;have HY:=V hY;have HM:=V hm;have a5:=V a2;have a6:=V U;have HB:=V hb;obtain⟨n,hn⟩:∃n,n=gG.length:=⟨_,rfl⟩;rw[<-hn]at a7 hav;have HN:=V hn;subst hav;clear hY hK hJ hp a3 hA hm hn hb U a2;go_enter func430,ntmps430;go_wp21;refine C.out.mono ?_;rintro e W2⟨rfl,⟨h,q⟩,hx⟩;have ac:=V (hx _ _ HA.out);have ae:=V h;have af:=V q;clear h q hx C HA;go_wp21
 go_loopw [14] (λv wr=>∃i:Nat,v=G i/\i<=n/\JW l b Ji JE (pre++(⟨4,s,⟨#[]⟩⟩::(gG.take i).map λa=>(⟨5,a.1,a.2⟩:It))) wr/\Z [] w0 wr/\vH wr (.slice ao n cap) gG) (λv _=>n-(intOf v).toNat)
 case atStart=>grind[Hid.out]
 case round=>
  obtain⟨i,rfl,hi,h,q,ha⟩:=hrel;by_cases aa:i<n
  .have h1:i<gG.length:=by rw[<-HN.out];exact aa
   obtain⟨g,a8⟩:∃g,ao=some ⟨g,0,none⟩:=by
    rcases ha.2 with⟨e,h0⟩|⟨g,ab,ag,e,_⟩
    all_goals grind
   subst a8;have ah:wr.cell? ⟨g,i*2,none⟩=some (Y gG[i].1):=by
    have:=ha.cells (g:=g) rfl (i*2) _ (PS gG i h1).1;rw[js]at this
    simpa using this
   have ai:wr.cell? ⟨g,i*2+1,none⟩=some (Y gG[i].2):=by
    have:=ha.cells (g:=g) rfl (i*2+1) _ (PS gG i h1).2;rw[js]at this
    simpa using this
   have m:(pre++(⟨4,s,⟨#[]⟩⟩::(gG.take i).map λa=>(⟨5,a.1,a.2⟩:It)))++[⟨5,gG[i].1,gG[i].2⟩]=pre++(⟨4,s,⟨#[]⟩⟩::(gG.take (i+1)).map λa=>(⟨5,a.1,a.2⟩:It)):=by
    have:(gG.take (i+1))=gG.take i++[gG[i]]:=by rw[yH,yG h1];rfl
    rw[this,rZ];simp only[vu,yF,wM,List.map_nil]
   have y:(pre++(⟨4,s,⟨#[]⟩⟩::(gG.take i).map λa=>(⟨5,a.1,a.2⟩:It)))++[⟨5,gG[i].1,gG[i].2⟩] <+:tot:=by
    rw[m];have⟨r,hr⟩:=HP.out;refine⟨((gG.drop (i+1)).map λa=>(⟨5,a.1,a.2⟩:It))++r,?_⟩;rw[<-hr];have e:=DZ (List.map λa:O×O=>(⟨5,a.1,a.2⟩:It)) (QV (i+1) gG);rw[rZ]at e;show _=pre++(⟨4,s,⟨#[]⟩⟩::gG.map λa=>(⟨5,a.1,a.2⟩:It))++r;rw[<-e];simp only[vu,yF]
   have kk:∀o,Z [] wr (wr.alloc o):=λo=>(Z.refl [] wr).alloc o;have CT:=V (λo=>Dx HY.out HB.out a6.out _ ⟨5,gG[i].1,gG[i].2⟩ (wr.alloc o) (q.trans (kk o)) (JW.mono HM.out a5.out h (kk o)) y);have a1:=V (λo=>ha.kept (kk o));simp only[m]at CT;generalize gG[i].1=u1 at *;generalize gG[i].2=u2 at *;clear m y kk h q ha;go_wp21;refine(CT.out _).mono ?_;rintro e W3⟨rfl,⟨h,q⟩,hx⟩;have H:=V h;have I:=V q;have ad:=V (hx _ _ (a1.out _));clear h q hx CT a1;go_wp2;go_roundw
   case rel=>grind[Hid.out]
   case measure=>simp[intOf];omega
  .have he:gG.take i=gG:=NZ (by grind[Hid.out]);rw[he]at h;have H:=V h;have I:=V q;clear q ha he;rcases h with⟨h,D⟩|⟨h,D⟩
   .have a0:=fP D 1;dsimp at a0;have a9:=ja D;clear h D;go_wp2;go_ret;exact⟨⟨_,rfl,.inl rfl⟩,H.out,I.out⟩
   .have a0:=fP D 1;dsimp at a0;have a9:=ja D;have a4:=V (λp=>(show JW l b Ji JE p wr from .inr ⟨h,D⟩));clear h D;go_wp2;go_ret;exact⟨⟨_,rfl,.inr ⟨rfl,a4.out⟩⟩,H.out,I.out⟩
end
theorem ZR(l b:Nat)(tot:List Ev)(w0:J)(Ji:List It->J->Prop)(JE:J->Prop)(H:dO l (jY tot) w0 Ji JE)(I:w0.heap.size<=b)(n:∀a1,Wk a1 b l false->JE a1->JE (a1.setCell ⟨b,1,none⟩ (.bool true)))(hm:∀pre W W',Ji pre W->Z [] W W'->Ji pre W')(U:∀W W',JE W->Z [] W W'->JE W'):
  eJ 197 (gI b) (λ_=>false) tot w0 (λpre W=>JW l b Ji JE (jY pre) W):=by
 have m:∀pre ev,jY (pre++[ev])=jY pre++uZ ev:=λpre ev=>by simp[jY]
 refine {mono:=λpre W W' h hk=>h.mono hm U hk,dt:=λs=>?_,cm:=λs=>?_,tx:=λs=>?_,xg:=λs=>?_,enter:=?_}
 .refine⟨429,gI b,λw=>by kernel_rfl,λw=>by kernel_rfl,enters_of func429 (by rfl) rfl,λpre W y q D=>?_⟩;have d:=yk D;rw[m]at d
  try simp
  rw[m];exact wdt H I n s _ W y q d
 .refine⟨428,gI b,λw=>by kernel_rfl,λw=>by kernel_rfl,enters_of func428 (by rfl) rfl,λpre W y q D=>?_⟩;have d:=yk D;rw[m]at d
  try simp
  rw[m];exact wcm H I n s _ W y q d
 .refine⟨432,gI b,λw=>by kernel_rfl,λw=>by kernel_rfl,enters_of func432 (by rfl) rfl,λpre W y q D=>?_⟩;have d:=yk D;rw[m]at d
  try simp
  rw[m];exact wtx H I n s _ W y q d
 .refine⟨431,gI b,λw=>by kernel_rfl,λw=>by kernel_rfl,enters_of func431 (by rfl) rfl,λpre W y q D=>?_⟩;have d:=yk D;rw[m]at d
  try simp
  rw[m];exact wlv H I n s _ W y q d
 refine⟨430,gI b,λw=>by kernel_rfl,λw=>by kernel_rfl,enters_of func430 (by rfl) rfl,λpre W s av gG y q D hA a0=>?_⟩;have d:=yk D;rw[m]at d;rw[m];refine(wen H I n hm U s av gG _ W y q d hA a0).mono ?_;grind
attribute [local go_sem] Oper.semAt_some
def aU(w:J)(d:Nat)(c:jL)(k:Nat):Prop:=w.heap[d]?=some (gH c 70)/\c[8]?=some (gI k)
theorem aU.kept{d:Nat}(h:aU w d c k)(m:Z [] w w'):aU w' d c k:=⟨m.at h.1 (by simp),h.2⟩
theorem aU.wA{d:Nat}(h:aU w d c k):w.cell? ⟨d,8,none⟩=some (gI k):=by rw[fP h.1,h.2]
def JM(w:J)(d k:Nat)(c:jL)(h:aU w d c k):
  Calls prog 22 #[gI d] w λe w'=>e=iA (.bool true)/\w'=w:=by
 have m:=h.wA;go_wp2;go_ret;simp
def Qf(w:J)(d:Nat):
  Calls prog 21 #[gI d] w λe w'=>e=iA (.func (.func 30) #[gI d] #[])/\w'=w:=by
 go_wp2;go_ret;simp
theorem aiL(l k:Nat)(name:O)(gG:lu)(d:List Tn)(w0:J)(h:jQ w0 (.el name gG d) (.el k))(Ji:List It->J->Prop)(JE:J->Prop)(hY:dO l (jY (uS (λ_=>false) d)) w0 Ji JE)(H:∀pre W W',Ji pre W->Z [] W W'->Ji pre W')(m:∀W W',JE W->Z [] W W'->JE W')(W:J)(n:∀a0 b,W.heap.size<=b->Wk a0 b l false->JE a0->JE (a0.setCell ⟨b,1,none⟩ (.bool true)))(q:Z [] w0 W)(U:Ji [] W):
  Calls prog 52 #[gI k,.func (.yield l) #[] #[]] W λe W'=>e=qs/\(Ji (jY (uS (λ_=>false) d)) W'\/JE W')/\Z [] w0 W':=by
 have I:=(Z.refl [] W).alloc (gH #[.func (.yield l) #[] #[],.bool false] 199);have hw:=fU W (gH #[.func (.yield l) #[] #[],.bool false] 199);have C:=V (zY (ZR l W.heap.size _ w0 Ji JE hY q.size (λa0=>n a0 _ (ic _)) H m) k name gG d h rfl _ (q.trans I) (.inl ⟨H _ _ _ U I,hw⟩));go_enter func52,ntmps52;go_wp2_with fail;refine C.out.mono ?_;rintro e W2⟨rfl,y,D⟩;have HJ:=V (y.imp And.left And.left);have HK:=V D;clear y D;go_wp2;go_end0;grind[Hid.out]
theorem akf(l D k:Nat)(c:jL)(name:O)(gG:lu)(q:List Tn)(w0:J)(y:aU w0 D c k)(h:jQ w0 (.el name gG q) (.el k))(Ji:List It->J->Prop)(JE:J->Prop)(U:dO l (jY (uS (λ_=>false) q)) w0 Ji JE)(hm:∀pre W W',Ji pre W->Z [] W W'->Ji pre W')(m:∀W W',JE W->Z [] W W'->JE W')(W:J)(n:∀a1 b,W.heap.size<=b->Wk a1 b l false->JE a1->JE (a1.setCell ⟨b,1,none⟩ (.bool true)))(d:Z [] w0 W)(I:Ji [] W):
  Calls prog 30 #[gI D,.func (.yield l) #[] #[]] W λe W'=>e=qs/\(Ji (jY (uS (λ_=>false) q)) W'\/JE W')/\Z [] w0 W':=by
 have C1:=V (JM W D k c (y.kept d));have H:=V (aiL l k name gG q w0 h Ji JE U hm m W n d I);have c8:=(y.kept d).wA;have a0:=ja (y.kept d).1;clear y h U hm m n d I;generalize Ji (jY (uS (λ_=>false) q))=J' at H|-;go_enter func30,ntmps30;go_wp2_with fail;refine C1.out.mono ?_;rintro e W2⟨rfl,rfl⟩;go_wp2_with fail;refine H.out.mono ?_;rintro e W3⟨rfl,hj,hk⟩;have HJ:=V hj;have HK:=V hk;clear hj hk;go_wp2;go_end0;grind[Hid.out]
attribute [local go_sem] Oper.semAt_some
def KW.put(h:W.heap[l]?=some o)(m:o.isCells=false)(n:Obj):KW W (W.putObj l n):=by
 intro k c t d _;refine(aht ?_).trans d;rintro rfl;rw[h]at d;cases d;cases m
theorem KW.trans{C:J}(h:KW A B)(k:KW B C):KW A C:=λi c t m d=>k i c t (h i c t m d) d
def KW.j9(h:Z [] A B):KW A B:=λi c t d _=>h.at d (by simp)
def JT(h:Z S A B)(n:∀k∈S,∃c t m,A.heap[k]?=some (.cells c t m)):KeepsOthers A B:=by
 refine⟨h.size,λk o d y=>(h.block k (Array.getElem?_eq_some_iff.1 d).1 ?_).trans d⟩;intro q;have⟨c,t,m,hc⟩:=n k q;rw[d]at hc;cases hc;cases y
theorem aiM(h:Z S A B)(d:∀k∈S,∃c t m,A.heap[k]?=some (.cells c t m)/\t∉[199,292]):KW A B:=by
 intro k c t n q;grind[Z.block]
theorem aaX{e:TypeId}{n:Nat}{xs:List gP}(h:W.ownsRow base e sz v n xs)(y:W.heap[l]?=some o)(D:o.isCells=false)(H:Obj):(W.putObj l H).ownsRow base e sz v n xs:=by
 refine⟨h.1,?_⟩;rcases h.2 with e|⟨g,cap,d,e,q,m,r⟩;grind;refine .inr ⟨g,cap,d,e,q,(aht ?_).trans m,r⟩;rintro rfl;rw[y]at m;cases m;cases D
theorem Qh(h:Z S w W)(q:w.heap.size<=l)(m:Obj):Z S w (W.putObj l m):=by
 have g:=nG W l m;exact⟨g.os.trans h.os,g.tape.trans h.tape,g.output.trans h.output,jZ h.size g.size,λk d n=>(g.block k (nr d h.size) (by grind)).trans (h.block k d n)⟩
def afR(h:Z [] w W)(m:w.heap.size<=l)(d:Obj):Z [] w (W.putObj l d):=Qh h m d
theorem ZU{n:Nat}(h1:1<=n)(ro:jj){g:Operand}{p:Tmp}{m y:Code}{Q:Exit->Act->J->Prop}{a:Act}{gf:Nat}{recv:gP}(hg:a.eval g=.func (.func gf) #[recv] #[])(eg:∀ab w,(callFunc gf ab).run prog w=.ok (.enter gf ab) w)
  (tot:List It) (w0:J)
  (ai:∀l Ji JE W,dO l tot w0 Ji JE->(∀pre W W',Ji pre W->Z [] W W'->Ji pre W')->(∀W W',JE W->Z [] W W'->JE W')->(∀aE b,W.heap.size<=b->Wk aE b l false->JE aE->JE (aE.setCell ⟨b,1,none⟩ (.bool true)))->Ji [] W->Z [] w0 W->Calls prog gf #[recv,.func (.yield l) #[] #[]] W λe W'=>e=qs/\(Ji tot W'\/JE W')/\Z [] w0 W')
  (id:Nat) (a2:List Deferred) (X:J->Prop) (l:Nat) (a1:w.heap.size<=l)
  (ar:∀fn,∃D W1,(Instr.enterLoop fn a.tmps #[p] m y ro).run prog w=.ok (l,a2) W1/\Z [] w W1/\X W1/\W1.heap[l]?=some (.loop {state:=.ready,pending:=none,fn:=fn,tmps:=a.tmps,params:=#[p],assign:=m,body:=y,defers:=D}))
  (a9:∀W W',X W->KeepsOthers W W'->X W') (ag:∀W o,X W->X (W.putObj l (.loop o)))
  (I:List It->J->Prop) (E:J->Prop) (ap:∀pre W,I pre W->Z [] w0 W) (ax:∀W,E W->Z [] w0 W) (ae:∀pre W W',I pre W->Z [] W W'->I pre W') (aB:∀W W',E W->Z [] W W'->E W')
  (af:∀pre W k r o',w.heap.size<=k->W.heap[k]?=some (.loop r)->I pre W->I pre (W.putObj k (.loop o'))) (an:∀W k r o',w.heap.size<=k->W.heap[k]?=some (.loop r)->E W->E (W.putObj k (.loop o')))
  (ay:∀aE b l,w.heap.size<=b->Wk aE b l false->E aE->E (aE.setCell ⟨b,1,none⟩ (.bool true)))
  (h0:I [] w) (A:It->Act->J->Prop) (aw:∀x a' W k r o',w.heap.size<=k->W.heap[k]?=some (.loop r)->A x a' W->A x a' (W.putObj k (.loop o')))
  (a5:∀(l:Nat)(pre:List It)(x:It)(W:J)(K:Act->J->Prop),I pre W->(∀a' W',Z [] W W'->A x a' W'->K a' W')->
   m.wpIn (Fence.wide.inRound l) 3 prog (Exit.then K (λ_ _ _=>False)) {tmps:=a.tmps.setIfInBounds p x.val,defers:=[]} W)
  (ah:∀(l:Nat)(pre:List It)(x:It)(a':Act)(W:J),w.heap.size<=l->(∃r,W.heap[l]?=some (.loop r))->I pre W->A x a' W->pre++[x] <+:tot->y.wpIn (Fence.wide.inRound l) 3 prog (λe _ W'=>((e=.normal/\I (pre++[x]) W')\/(e=.exit id/\E W'))/\KW W W'/\KeepsOthers W W') a' W)
  (aj:∀(W:J),I tot W->X W->Q .normal {a with defers:=a2++a.defers} W)
  (am:∀(W:J),E W->X W->Q (.exit id) {a with defers:=a2++a.defers} W):
  (Code.rangeFunc g #[p] m y).wpIn {Fence.wide with round:=ro} n prog Q a w:=by
 refine XC ?_;intro fn aC;have⟨D,W1,hrun,kw1,hX1,hL1⟩:=ar fn;obtain⟨q,a8⟩:∃q:LoopState->Option Code->Loop,q=λst pe=>{state:=st,pending:=pe,fn:=fn,tmps:=a.tmps,params:=#[p],assign:=m,body:=y,defers:=D}:=⟨_,rfl⟩;have er:∀st pe,q st pe={state:=st,pending:=pe,fn:=fn,tmps:=a.tmps,params:=#[p],assign:=m,body:=y,defers:=D}:=λ_ _=>by rw[a8]
 rw[<-er]at hL1;have ko:∀{A B:J},Z [] A B->KeepsOthers A B:=λh=>JT h (by simp);refine⟨l,a2,W1,{target:=.fn (.func gf) #[],args:=#[recv,.func (.yield l) #[] #[]]},W1,gf,#[recv,.func (.yield l) #[] #[]],W1,hrun,?_,?_,?_,λ_=>h1,?_⟩
 .simp only[resolve,hg];simp[go_sem]
 intro f' _;trivial
 .simp[invoke,go_sem,eg]
 .have hC:=ai l (λpre W=>I pre W/\W.heap[l]?=some (.loop (q .ready none))/\X W) (λW=>E W/\W.heap[l]?=some (.loop (q .done (some (.exit id))))/\X W) W1 ?_ ?_ ?_ ?_ ⟨ae _ _ _ h0 kw1,hL1,hX1⟩ (ap _ _ (ae _ _ _ h0 kw1))
  .refine CallsIn.mono (F:={Fence.wide with round:=ro}) (callsIn_wide.2 hC) ?_;rintro e W2⟨rfl,⟨hi,hl,hx⟩|⟨hi,hl,hx⟩,_⟩;have d:=iT (P:=prog) hl (by rw[er];simp);rw[er]at d;exact⟨none,_,d,aj _ (af _ _ _ _ _ a1 hl hi) (ag _ _ hx)⟩
   .have d:=iT (P:=prog) hl (by rw[er];simp);rw[er]at d;exact⟨some (.exit id),_,d,wpIn_exit (am _ (an _ _ _ _ a1 hl hi) (ag _ _ hx))⟩
  .rintro pre x W hK⟨hi,hl,hd⟩ au;have aD:l<W.heap.size:=(Array.getElem?_eq_some_iff.1 hl).1;have hy:=by
    have:=run_yield (P:=prog) (args:=#[x.val]) hl (by rw[er];rfl);rw[er]at this
    simpa using this
   refine⟨fn,_,m,y,hy,roundIn_of_wpIn trivial (a5 _ pre x W _ hi ?_)⟩;intro a' Wa aa hA;have a7:=(aa.block _ (Array.getElem?_eq_some_iff.1 hl).1 (by simp)).trans hl;have aA:X Wa:=a9 _ _ hd (ko aa);refine⟨_,run_beginRound a7 (by rw[er]),?_⟩;obtain⟨W2,a4⟩:∃W2,W2=Wa.putObj l (.loop {q .ready none with state:=.busy}):=⟨_,rfl⟩;rw[<-a4];have al:W2.heap[l]?=some (.loop {q .ready none with state:=.busy}):=by rw[a4];exact vF (Array.getElem?_eq_some_iff.1 a7).1
   have aq:X W2:=by rw[a4];exact ag _ _ aA
   have ac:KW W W2:=by rw[a4];exact(KW.j9 aa).trans (KW.put a7 rfl _)
   refine C8 (ah _ pre x a' W2 a1 ⟨_,al⟩ (by rw[a4];exact af _ _ _ _ _ a1 a7 (ae _ _ _ hi aa)) (by rw[a4];exact aw _ _ _ _ _ _ a1 a7 hA) au) ?_;rintro e a3 W3⟨⟨rfl,ak⟩|⟨rfl,ak⟩,ad,U⟩;have a0:=U.same _ _ al rfl;have az:=a9 _ _ aq U;have d:=run_endRound (P:=prog) none a0;have e1:({({q .ready none with state:=.busy}:Loop)with state:=if (none:Option Code).isNone then .ready else .done,pending:=none}:Loop)=q .ready none:=by subst a8;rfl
   rw[e1]at d;obtain⟨W4,H⟩:∃W4,W4=W3.putObj l (.loop (q .ready none)):=⟨_,rfl⟩;rw[<-H]at d;have a6:I (pre++[x]) W4:=by rw[H];exact af _ _ _ _ _ a1 a0 ak
   refine⟨_,_,d,.inl ⟨rfl,a6,?_,?_⟩,ap _ _ a6,?_⟩;grind[World.putObj_heap_same];grind;rw[H];exact(ac.trans ad).trans (KW.put a0 rfl _);have a0:=U.same _ _ al rfl;have az:=a9 _ _ aq U;have d:=run_endRound (P:=prog) (some (.exit id)) a0;have e1:({({q .ready none with state:=.busy}:Loop)with state:=if (some (Code.exit id):Option Code).isNone then .ready else .done,pending:=some (.exit id)}:Loop)=q .done (some (.exit id)):=by subst a8;rfl
   rw[e1]at d;obtain⟨W4,H⟩:∃W4,W4=W3.putObj l (.loop (q .done (some (.exit id)))):=⟨_,rfl⟩;rw[<-H]at d;have a6:E W4:=by rw[H];exact an _ _ _ _ a1 a0 ak
   refine⟨_,_,d,.inr ⟨rfl,a6,?_,?_⟩,ax _ a6,?_⟩;grind[World.putObj_heap_same];grind;rw[H];exact(ac.trans ad).trans (KW.put a0 rfl _)
  grind[Z.block];grind[Z.block];rintro aE b hb hw⟨hi,hl,hd⟩;have U:=C9 aE ⟨b,1,none⟩ (.bool true);exact⟨ay _ _ _ (jZ kw1.size hb) hw hi,U.same _ _ hl rfl,a9 _ _ hd U⟩
theorem acy{a:Act}{p:Tmp}{d h:Code}:∀n,∃D m,(Instr.enterLoop n a.tmps #[p] d h none).run prog w=.ok (w.heap.size+1,[{target:=.collected w.heap.size,args:=#[]}]) m/\Z [] w m/\m.heap[w.heap.size]?=some (.deferred (some []))/\m.heap[w.heap.size+1]?=some (.loop {state:=.ready,pending:=none,fn:=n,tmps:=a.tmps,params:=#[p],assign:=d,body:=h,defers:=D}):=by
 intro n;refine⟨w.heap.size,_,QW _ _ _ _ _,((Z.refl _ _).alloc _).alloc _,(Below.heap_alloc _ _ _ (by simp)).trans (Da w _),?_⟩;grind[World.alloc_heap_new,World.size_alloc]
attribute [local go_sem] Oper.semAt_some
def sX(L:List It):List gP:=L.flatMap λx=>[G x.k,Y x.s,Y x.t]
def OC(L M:List It):sX (L++M)=sX L++sX M:=vE ..
def acI:(prog.info? 36).map (λi=>(i.zero,i.size,i.bytes))=some (some (.agg #[G 0,Y kB,Y kB]),3,40):=by kernel_rfl
theorem ah1{h:J}{d:Nat}{U I:TypeId}{n n':Nat}{xs D:List gP}(hB:W.heap[d]?=some (gH #[v] U))(hv:W.ownsRow base I sz v n xs)(hb:d<base)(y:h.ownsRow base I sz v' n' D)(H:(W.alloc o).grownBy h v.ownBlock):
  h.heap[d]?=some (gH #[v] U)/\(h.setCell ⟨d,0,none⟩ v').heap[d]?=some (gH #[v'] U)/\(h.setCell ⟨d,0,none⟩ v').ownsRow base I sz v' n' D/\Z (d::v.ownBlock.toList) W (h.setCell ⟨d,0,none⟩ v'):=by
 have h3:Z v.ownBlock.toList W h:=((Z.refl _ _).alloc _).grown H (λk e=> .inl (by grind));have m:=h3.at hB (λhm=>by
  have:=(hv.lt d (by grind)).1;omega)
 refine⟨m,gh m 0 _,((Z.refl [d] h).setCell (.inl (by simp)) _).ownsRow y (λq hq hm=>?_),(h3.mono (λk hk _=>abv _ hk)).setCell (.inl (by simp)) _⟩;have:=(y.lt q hq).1;grind
theorem aje{h:TypeId}{n:Nat}{xs:List gP}(q:W.ownsRow base h sz v n xs):∀k∈v.ownBlock.toList,∃c,W.heap[k]?=some (gH c h):=by
 intro k d;rcases q.2 with⟨rfl,_⟩|⟨g,cap,m,rfl,_,y,_⟩;simp[Value.ownBlock]at d;simp[Value.ownBlock]at d;grind
attribute [local go_sem] Oper.semAt_some
theorem af2(w:J)(bx k:Nat)(c:jL)(name:O)(gG:lu)(ts:List Tn)(hp:aU w bx c k)(h:jQ w (.el name gG ts) (.el k))(tot:List It)(ht:jY (uS (λ_=>false) ts)=tot)(hn:tot.length<=1000000000):
  Calls prog 13 #[gI bx] w λe w'=>∃v,e=iA v/\w'.ownsRow w.heap.size 36 3 v tot.length (sX tot)/\Z [] w w':=by
 refine(XB (n:=5)).1 ?_;refine abz func13 rfl trivial ?_ rfl;simp only[ntmps13,abw,pG,Kk,Nat.reduceAdd,Nat.reduceSub,sR,yD,wL,yE,abu,yF];have HP:=V hp;have HT:=V h;have a8:=V ht;clear hp h ht
 gi_wp2_with (refine⟨trivial,?_⟩;gi_at_call 21;refine(callsIn_wide.2 (Qf _ bx)).mono ?_;rintro e w'⟨rfl,rfl⟩)
 obtain⟨w1,I⟩:∃w1,w1=w.alloc (gH #[jD] 23):=⟨_,rfl⟩;have z1:w1.heap.size=w.heap.size+1:=by rw[I];simp
 have k1:Z [] w w1:=by rw[I];exact(Z.refl _ _).alloc _
 have g1:w1.heap[w.heap.size]?=some (gH #[jD] 23):=by rw[I];exact fU w _
 rw[<-I];clear I;have⟨i0,hi,hz0,hz1,hz2⟩:=qz acI;have HE:=V (enters_of func30 (by rfl) rfl);have a7:=a8.out;have HC:=V (λl Ji JE W hY hm ab ac h0 hK=>akf l bx k c name gG ts w HP.out HT.out Ji JE (by omega) hm ab W ac hK h0);rw[a7]at HC;clear a7;have ad:∀{W:J},Z [w.heap.size] w1 W->Z [] w W:=λh=>k1.next h (by simp);refine ZU (by omega) none (gf:=30) (recv:=gI bx) rfl HE.out tot w HC.out 0 _ (λW=>W.heap[w1.heap.size]?=some (.deferred (some []))) (w1.heap.size+1) (by omega) acy (λW W' h hk=>hk.same _ _ h rfl) (λW o h=>(aht (by omega)).trans h)
  (λpre W=>∃v,W.heap[w.heap.size]?=some (gH #[v] 23)/\W.ownsRow w1.heap.size 36 3 v pre.length (sX pre)/\Z [w.heap.size] w1 W) (λ_=>False)
  (λ_ _ h=>by grind) (λ_ h=>h.elim) ?_ (λ_ _ h _=>h) ?_ (λ_ _ _ _ _ _ h=>h) (λ_ _ _ _ _ h=>h) ⟨_,g1,pP _ _ _ _,Z.refl _ _⟩
  (λx a' W=>∃X,w1.heap.size<=X/\W.heap[X]?=some (gH #[G x.k,Y x.s,Y x.t] 36)/\a'={tmps:=#[gI bx,undef,jD,gI w.heap.size,gI X,gI bx,.func (.func 30) #[gI bx] #[],x.val,undef,undef,undef,undef,undef],defers:=[]}) ?_ ?assign ?body ?done ?halt
 rintro pre W W'⟨v,d,y,D⟩ hk;exact⟨v,hk.at d (by simp),hk.ownsRow y (λ_ _=>by simp),D.trans (hk.mono (by simp))⟩;rintro pre W k r o' hk hl⟨v,d,y,D⟩;exact⟨v,(aht (by omega)).trans d,aaX y hl rfl _,Qh D (by omega) _⟩;rintro x a' W k r o' hk hl⟨X,d,y,D⟩;refine⟨X,d,(aht ?_).trans y,D⟩;grind
 case assign=>
  rintro l pre x W K⟨v,d,y,D⟩ hK;have hz:=D.size;gi_wp2;exact hK _ _ ((Z.refl [] W).alloc _) ⟨W.heap.size,by omega,fU W _,rfl⟩
 case body=>
  rintro l pre x a' W _ _⟨v,d,y,D⟩⟨X,hX,h4,rfl⟩ a1;have a0:pre.length+1<=tot.length:=by have:=a1.length_le;simpa using this
  have hz:=D.size;have c1:=fP d 0;have f1:=gx d 0;have x0:=fP h4 0;have x1:=fP h4 1;have x2:=fP h4 2;dsimp at c1 x0 x1 x2;have⟨ao,cp,hv⟩:=gz y;subst hv;have a4:=V d;have H:=V y;have a2:=V D;have aa:=ja d;have HB:=V aa;have HZ:=V hz;have U:=V a0;have a5:=V hn;have a9:=V z1;clear d y D h4 a1 hz a0 hn z1
  gi_wp2_with (gi_at_builtin;refine wpListIn_append_own _ rfl _ _ 23 rfl w1.heap.size 36 i0 (.agg #[G 0,Y kB,Y kB]) 3 40 underlying23 hi hz0 hz1 hz2 rfl (by decide) _ _ _ rfl (H.out.alloc _) ⟨W.heap.size,0,none⟩ 1 1 [G x.k,Y x.s,Y x.t] rfl rfl ?c1 ?c2 ?c3 ?c4 ?c5 ?_)
  case c1=>
   intro j u hj;have hg:=fU W (gH #[G x.k,Y x.s,Y x.t] 36);rw[js,fP hg];grind
  case c2=>
   intro u hu;simp at hu;rcases hu with rfl|rfl|rfl<;>rfl
  case c3=>have:=U.out;have:=a5.out;unfold maxLen;omega
  case c4=>have:=U.out;have:=a5.out;omega
  case c5=>have:=HB.out;have:=HZ.out;have:=a9.out;simp;omega
  intro v' w3 a3 a6 _;have⟨ao',cp',hv'⟩:=gz a3;subst hv';have⟨hB3,hB4,ho4,hk4⟩:=ah1 a4.out H.out (by grind) a3 a6;have c3:=fP hB3 0;have f3:=gx hB3 0;dsimp at c3;have kk:Z [w.heap.size] w1 (w3.setCell ⟨w.heap.size,0,none⟩ (.slice ao' (pre.length+1) cp')):=a2.out.next hk4 (λq hq=>by
   rcases List.mem_cons.1 hq with rfl|hq;simp;exact .inr (H.out.lt q (by simpa using hq)).1)
  have ow:(w3.setCell ⟨w.heap.size,0,none⟩ (.slice ao' (pre.length+1) cp')).ownsRow w1.heap.size 36 3 (.slice ao' (pre.length+1) cp') (pre++[x]).length (sX (pre++[x])):=by
   have e2:sX (pre++[x])=sX pre++[G x.k,Y x.s,Y x.t]:=by rw[OC];rfl
   rw[e2,N3];exact ho4
  have hS:∀k∈w.heap.size::(Value.slice ao pre.length cp).ownBlock.toList,∃c t m,W.heap[k]?=some (.cells c t m)/\t∉[199,292]:=λq hq=>by
   rcases List.mem_cons.1 hq with rfl|hq;exact⟨_,_,_,a4.out,by decide⟩;have⟨cc,hc⟩:=aje H.out q hq;grind
  have HF:=V (show(∃v,(w3.setCell ⟨w.heap.size,0,none⟩ (.slice ao' (pre.length+1) cp')).heap[w.heap.size]?=some (gH #[v] 23)/\(w3.setCell ⟨w.heap.size,0,none⟩ (.slice ao' (pre.length+1) cp')).ownsRow w1.heap.size 36 3 v (pre++[x]).length (sX (pre++[x]))/\Z [w.heap.size] w1 (w3.setCell ⟨w.heap.size,0,none⟩ (.slice ao' (pre.length+1) cp')))/\KW W (w3.setCell ⟨w.heap.size,0,none⟩ (.slice ao' (pre.length+1) cp'))/\KeepsOthers W (w3.setCell ⟨w.heap.size,0,none⟩ (.slice ao' (pre.length+1) cp'))from⟨⟨_,hB4,ow,kk⟩,aiM hk4 hS,JT hk4 (λq hq=>by grind)⟩);clear a3 a6 hB3 hB4 ho4 hk4 kk ow hS;gi_wp2;exact⟨by simpa using HF.out.1,HF.out.2⟩
 case done=>
  rintro W⟨v,d,y,D⟩ hd;have⟨ao,cp,hv⟩:=gz y;subst hv;have c1:=fP d 0;dsimp at c1;have H:=V y;have a2:=V (ad D);have HD:=V hd;have ae:=V z1;clear d y D hd;gi_wp2;refine⟨by simp,.inl ⟨_,_,rfl,N4 HD.out,?_⟩⟩;refine⟨_,results_tmp rfl _ _ _,_,rfl,?_,afR a2.out (by omega) _⟩;exact ke (aaX H.out HD.out rfl (.deferred none)) (by omega)
 simp
structure Fu(w:J)(g off n:Nat)(A:Nat->It):Prop where
 c0:∀i,i<n->w.cell? ⟨g,off+i*3,none⟩=some (G (A i).k)
 c1:∀i,i<n->w.cell? ⟨g,off+i*3+1,none⟩=some (Y (A i).s)
 c2:∀i,i<n->w.cell? ⟨g,off+i*3+2,none⟩=some (Y (A i).t)
def Cf(L:List It)(i:Nat):It:=L.getD i ⟨0,⟨#[]⟩,⟨#[]⟩⟩
theorem afP{L:List It}(n:w.ownsRow base 36 3 (nX g L.length cap) L.length (sX L)):Fu w g 0 L.length (Cf L):=by
 have m:∀(L:List It)(i k:Nat),i<L.length->k<3->(sX L)[i*3+k]?=[Value.int .i64 (Cf L i).k,Y (Cf L i).s,Y (Cf L i).t][k]?:=by
  intro L
  induction L with
  |nil=>simp
  |cons p L ih=>
   intro i k d h;show(Value.int .i64 p.k:: .string p.s:: .string p.t::sX L)[i*3+k]?=_;cases i with
   |zero=>
    have e:Cf (p::L) 0=p:=rfl;grind
   |succ i=>
    have e:Cf (p::L) (i+1)=Cf L i:=by unfold Cf;simp
    grind
 have c:∀i k,i<L.length->k<3->w.cell? ⟨g,i*3+k,none⟩=[Value.int .i64 (Cf L i).k,Y (Cf L i).s,Y (Cf L i).t][k]?:=by
  intro i k d h
  match k,h with
  |0,h=>have:=n.cells (g:=g) rfl (i*3+0) _ (m L i 0 d h);grind[js]
  |1,h=>have:=n.cells (g:=g) rfl (i*3+1) _ (m L i 1 d h);grind[js]
  |2,h=>have:=n.cells (g:=g) rfl (i*3+2) _ (m L i 2 d h);grind[js]
 refine⟨λi d=>?_,λi d=>?_,λi d=>?_⟩;rw[Nat.zero_add];exact c i 0 d (by omega)
 all_goals grind
def aV(s u:O):Nat->Nat->Nat->Bool
 |0,_,_=>false
 |n+1,f,i=>if i=u.size\/bt u i=32 then (if s.toList≠[]/\(u.extract f i).toList=s.toList then true else aV s u n (i+1) (i+1))else aV s u n f (i+1)
def Ub(s u:O)(w:J)(hu:u.size<=1000):
  Calls prog 7 #[Y s,Y u] w λe w'=>e=iA (.bool (aV s u (u.size+1) 0 0))/\w'=w:=by
 have a0:=get_bt u;obtain⟨r,hr⟩:∃r,r=aV s u (u.size+1) 0 0:=⟨_,rfl⟩;rw[<-hr];have HR:=V hr;clear hr;go_enter func7,ntmps7;go_wp2
 go_loopw [5,6] (λf i wr=>∃a k:Nat,f=G a/\i=G k/\a<=k/\k<=u.size+1/\Hid (r=aV s u (u.size+1-k) a k)/\wr=w) (λ_ i _=>u.size+1-(intOf i).toNat)
 case atStart=>exact⟨0,0,rfl,rfl,ic _,xj _,HR,rfl⟩
 case round=>
  obtain⟨a,k,rfl,rfl,ha,hk,d,hw⟩:=hrel;replace hw:=hw.symm;subst hw;clear HR;by_cases h1:k<=u.size
  .have m:Hid (∀(b:Nat)(x y:Int),x=b->y=k+1->b<=k+1->r=aV s u (u.size-k) b (k+1)->(∃a n:Nat,Value.int .i64 x=G a/\Value.int .i64 y=G n/\a<=n/\n<=u.size+1/\Hid (r=aV s u (u.size+1-n) a n)/\True)/\u.size+1-(intOf (G y)).toNat<u.size+1-(intOf (G k)).toNat):=V (by
    rintro b _ _ rfl rfl H q;exact⟨⟨b,k+1,rfl,rfl,H,by omega,by rw[show u.size+1-(k+1)=u.size-k by omega];exact V q,trivial⟩,by simp[intOf];omega⟩)
   rw[show u.size+1-k=(u.size-k)+1 by omega,aV]at d;have D:k=u.size\/k<u.size/\((k:Int)==(u.size:Int))=false:=by
    rcases D0 k u.size with h|h;exact .inr ⟨h,beq_eq_false_iff_ne.2 (by omega)⟩;exact .inl (by omega)
   by_cases H:k=u.size\/bt u k=32
   .rw[sL H]at d;by_cases q:s.toList≠[]/\(u.extract a k).toList=s.toList
    .rw[sL q]at d;have U:s.toList.isEmpty=false:=by simpa using q.1
     have c2:((u.extract a k).toList==s.toList)=true:=beq_iff_eq.2 q.2;obtain rfl:=d.out;clear q m d;rcases D with rfl|⟨D,h6⟩
     all_goals (try have h7:bt u k=32:=by omega)
     all_goals
      go_wp2;go_ret;exact⟨rfl,rfl⟩
    .rw[Xx q]at d;have I:=V (m.out (k+1) ((k:Int)+1) _ (by omega) rfl (by omega) d.out);clear m d;by_cases U:s.toList=[]
     .clear q;rcases D with rfl|⟨D,h6⟩
      all_goals (try have h7:bt u k=32:=by omega)
      all_goals (go_wp2_with fail;exact I.out)
     .have c2:((u.extract a k).toList==s.toList)=false:=beq_eq_false_iff_ne.2 λh=>q ⟨U,h⟩;replace U:s.toList.isEmpty=false:=by simpa using U
      clear q;rcases D with rfl|⟨D,h6⟩
      all_goals (try have h7:bt u k=32:=by omega)
      all_goals (go_wp2_with fail;exact I.out)
   .rw[Xx H]at d;have I:=V (m.out a (a:Int) _ rfl rfl (by omega) d.out);have h6:(bt u k==32)=false:=beq_eq_false_iff_ne.2 λh=>H (.inr h);have h7:((k:Int)==(u.size:Int))=false:=beq_eq_false_iff_ne.2 (by omega);have h8:k<u.size:=by omega
    clear H m d D;go_wp2_with fail;exact I.out
  .have h4:r=false:=by rw[d.out,show u.size+1-k=0 by omega];rfl
   subst h4;go_wp2;go_ret;exact⟨rfl,rfl⟩
def afI:(prog.info? 138).map (λi=>(i.zero,i.size,i.bytes))=some (some (.nilIface),1,16):=by kernel_rfl
theorem ach{l:List gP}{n:Nat}(d:i<j)(h:j<=n)(m:n<=l.length):
  ((l.take i++(l.take n).drop j++l.drop (i+(n-j))).take (n-(j-i)))=(l.take n).take i++(l.take n).drop j:=by
 grind[List.length_take]
theorem aig(g cap i j n:Nat)(m:jL)(w:J)(y:w.heap[g]?=some (gH m 138))(ab:n<=cap)(ac:m.size=cap)(hi:i<j)(hj:j<=n)(aa:n<=1048576)
  (h1:∀u∈m.toList.take n,u.oneCell'=true):
  Calls prog 377 #[nX g n cap,G i,G j] w λe w'=>e=iA (nX g (n-(j-i)) cap)/\
   ∃D,w'.heap[g]?=some (gH D 138)/\D.size=cap/\D.toList.take (n-(j-i))=(m.toList.take n).take i++(m.toList.take n).drop j/\Z [g] w w':=by
 obtain⟨i0,a4,ad,a6,ae⟩:=qz afI;obtain⟨d,q⟩:∃d,d=(m.toList.take n).drop j:=⟨_,rfl⟩;have H:d.length=n-j:=by rw[q];simp;omega
 have a1:∀t u,d[t]?=some u->m[j+t]?=some u:=by
  intro t u hu;rw[q,sQ,gM]at hu;split at hu;grind;cases hu
 obtain⟨A,hA,a2⟩:∃A:Addr,(if cap=j then some (⟨g,0,none⟩:Addr)else some ⟨g,j,none⟩)=some A/\Hid (∀t u,d[t]?=some u->w.drew.cell? (A.add t)=some u):=by
  by_cases h:cap=j;refine⟨⟨g,0,none⟩,by simp[h],λt u hu=>?_⟩;grind;refine⟨⟨g,j,none⟩,by simp[h],λt u hu=>?_⟩;rw[show(⟨g,j,none⟩:Addr).add t=⟨g,j+t,none⟩from by unfold Addr.add;simp];exact(fP y _).trans (a1 t u hu)
 have s1:Hid (d.length=(n-j)*1):=by rw[ahq];exact H
 have s2:Hid (∀u∈d,u.oneCell'=true):=λu hu=>h1 u (yC (q▸hu));have s3:Hid (∀t,t<d.length->(w.drew.cell? ⟨g,0+i*1+t,none⟩).isSome=true/\w.drew.frozen? ⟨g,0+i*1+t,none⟩=false):=by
  intro t ht;rw[H]at ht;refine⟨?_,gx y _⟩;show(w.cell? _).isSome=true;rw[fP y,jC (by omega)];rfl
 obtain⟨U,I⟩:∃U,U=w.drew.setCells g (0+i*1) d:=⟨_,rfl⟩;have a0:U.heap[g]?=some (gH (jz m (0+i*1) d) 138):=by rw[I];exact la d w.drew g m _ _ _ y
 have a3:Z [g] w U:=by rw[I];exact Z.setCells (.inl (by simp)) d _ (Z.refl _ _).drew
 have a7:∀ty,(Builtin.clear_ #[134] ty #[.slice (some ⟨g,i+(n-j),none⟩) (n-(i+(n-j))) (cap-(i+(n-j)))]).run prog U=.ok (.tuple #[]) (U.setCells g (i+(n-j)) (List.replicate (n-(i+(n-j))) (.nilIface))):=
  λty=>Lib.run_clear_slice U _ _ ty _ underlying134 Tryz.zeroValue138 rfl rfl g (i+(n-j)) _ _ (by omega) (λt ht=>by rw[fP a0,jC (by grind[jE])];rfl) (λt ht=>gx a0 _)
 have HB:=la (List.replicate (n-(i+(n-j))) (Value.nilIface)) U g _ _ _ (i+(n-j)) a0;have HK:=Z.setCells (S:=[g]) (a:=w) (b:=g) (.inl (by simp)) (List.replicate (n-(i+(n-j))) (Value.nilIface)) (i+(n-j)) a3;have a5:=li (List.replicate (n-(i+(n-j))) (Value.nilIface)) (jz m (0+i*1) d) (i+(n-j)) (by grind[jE]);have HF:(jz (jz m (0+i*1) d) (i+(n-j)) (List.replicate (n-(i+(n-j))) (Value.nilIface))).toList.take (n-(j-i))=(m.toList.take n).take i++(m.toList.take n).drop j:=by
  rw[a5,vu,abt (by simp[jE];omega),(li _ _ _ (by omega)),H,q];rw[Hn,NY (by omega)];have:=ach (l:=m.toList) hi hj (by grind)
  simpa using this
 have HW:=V I;have a8:i<=cap:=by omega
 have a9:j<=cap:=by omega
 clear I;go_enter func377,ntmps377;go_wp21
 go_region_law (refine step_append_room rfl (.tmp 22) (.tmp 25) 134 rfl 138 i0 1 underlying134 a4 a6 g 0 i cap (by simp[Act.eval,Act.put]) A (n-j) (cap-j) d (by simp[Act.eval,Act.put]) s1 a2 s2 (by omega) s3 ?_;rw[<-HW.out])
 go_wp2;go_ret;exact⟨by rw[show n-(j-i)=i+(n-j) by omega];rfl,_,HB,by grind[jE],HF,HK⟩
def Nd.il:Nd->Nat
 | .el k=>k
 | .tx k=>k
 | .cm k=>k
 | .dt k=>k
def Nd.eY:Nd->TypeId
 | .el _=>136
 | .tx _=>277
 | .cm _=>232
 | .dt _=>236
def BJ(w:J)(x:Nd):Prop:=∃c,w.heap[x.il]?=some (gH c x.eY)
def Nd.gZ(j:Nat):Nd->Bool
 | .el k=>k==j
 |_=>false
def E8:(prog.info? 66).map (λi=>i.comparable)=some true:=by kernel_rfl
def Iq{U:TypeId}(m:T≠U)(w:J):(binOp .eql 138 (.iface T v) (.iface U u)).run prog w=.ok (.bool false) w:=by
 have h:∀d:Nat,(Op.equalIn (d+1) 138 (.iface T v) (.iface U u)).run prog w=.ok false w:=λd=>by simp[Op.equalIn,gy underlying138,m]
 simp only[binOp];simp[Op.equal,Op.maxDepth,h 9999]
def alI{x:Nd}(y:BJ w x)(n:BJ w (.el j)):
  (binOp .eql 138 x.val (Nd.el j).val).run prog w=.ok (.bool (x.gZ j)) w:=by
 obtain⟨i,m,d⟩:=Option.map_eq_some_iff.1 E8;have⟨q,hq,hqs⟩:=Option.map_eq_some_iff.1 aaq;cases x with
 |el k=>
  by_cases h:k=j;subst h;have e:(Nd.el k).gZ k=true:=by simp[Nd.gZ]
  rw[e];exact run_eql_iface_ptr_same w _ underlying138 underlying66 m d hq;have⟨ca,ha⟩:=y;have⟨cb,hb⟩:=n;have e:(Nd.el k).gZ j=false:=by simp[Nd.gZ,h]
  rw[e];exact run_eql_iface_ptr_other w underlying138 underlying66 m d hq (by omega) (by simp) ha hb
 |tx k=>exact Iq (by decide) w
 |cm k=>exact Iq (by decide) w
 |dt k=>exact Iq (by decide) w
def Ja(x:Nd):∃T v,x.val=.iface T (.pointer v):=by cases x<;>exact⟨_,_,rfl⟩
def Vb(d j:Nat)(x:Nd)(w:J)(q:w.cell? ⟨d,0,none⟩=some (gI j))(n:BJ w x)(m:BJ w (.el j)):
  Calls prog 362 #[x.val,gI d] w λe w'=>e=iA (.bool (x.gZ j))/\w'=w:=by
 have h:=alI n m;have⟨T,p,hv⟩:=Ja x;rw[hv]at h|-;unfold Nd.val at h;go_wp2;go_ret;simp
def pa(ns:List Nd)(p:Nd->Bool):Int:=if ns.findIdx p<ns.length then (ns.findIdx p:Int)else -1
theorem aji{p:Nd->Bool}(h:k<ns.length)(m:p ns[k]=true)(d:∀j,(hj:j<ns.length)->j<k->p ns[j]=false):pa ns p=k:=by
 grind[pa]
theorem ajj{p:Nd->Bool}(d:∀j,(hj:j<ns.length)->p ns[j]=false):pa ns p= -1:=by
 grind[pa]
theorem aiC(kv:gP)(ns:List Nd)(base D j:Nat)(w:J)(ho:w.ownsRow base 138 1 kv ns.length (ns.map Nd.val))(hn:∀x∈ns,BJ w x)(hj:BJ w (.el j))(hb:w.cell? ⟨D,0,none⟩=some (gI j))(a0:ns.length<=1048576):
  Calls prog 361 #[kv,.func (.func 362) #[] #[gI D]] w λe w'=>e=iA (G (pa ns (Nd.gZ j)))/\w'=w:=by
 have HC:=(λx hx=>Vb D j x w hb (hn x hx) hj);rcases ho.2 with⟨rfl,e0⟩|⟨g,cap,H,rfl,_,q,a2,_,_,n⟩
 .have y:ns=[]:=TE e0;subst y;go_enter func361,ntmps361;go_wp2;refine yB 1 ?_;rw[uE];go_wp2;go_ret;simp[pa]
 .have HL:∀k,(I:k<ns.length)->w.cell? ⟨g,k,none⟩=some ns[k].val:=by
   intro k I;rw[fP q];have:(H.toList.take (ns.length*1))[k]?=some ns[k].val:=by rw[n];simp[I]
   rw[gM]at this;split at this;grind;omega
  go_enter func361,ntmps361;go_wp2
  go_loopw [8] (λi wr=>∃k:Nat,k<=ns.length/\i=G k/\wr=w/\∀m,(U:m<ns.length)->m<k->(ns[m]).gZ j=false) (λi _=>ns.length-(intOf i).toNat)
  case atStart=>grind
  case round=>
   obtain⟨k,I,rfl,rfl,HN⟩:=hrel;by_cases h:k<ns.length
   .have c2:=HL k h;have d:=HC ns[k] (wK h);have⟨T,p,hv⟩:=Ja ns[k];rw[hv]at c2 d;cases hq:(ns[k]).gZ j with
    |true=>
     rw[hq]at d;have hp:=V (aji h hq HN);go_wp21;refine d.mono ?_;rintro e w'⟨rfl,hw⟩;subst hw;go_wp2;go_ret;exact⟨by rw[hp.out];rfl,rfl⟩
    |false=>
     rw[hq]at d;have HQ:=hq;go_wp21;refine d.mono ?_;rintro e w'⟨rfl,hw⟩;subst hw;go_wp2;go_roundw
     case rel=>
      refine⟨k+1,by omega,by go_num,by simp,λm U a1=>?_⟩;grind
     case measure=>simp[intOf];omega
   .have hp:=V (ajj (ns:=ns) (p:=Nd.gZ j) (λm U=>HN m U (by omega)));go_wp2;go_ret;exact⟨by rw[hp.out];rfl,rfl⟩
theorem Mx(base k j:Nat)(name:O)(av kv:gP)(ji:jj)(ns:List Nd)(w:J)(h:El base w k name av ji kv ns)(D:∀x∈ns,BJ w x)(q:BJ w (.el j)):
  Calls prog 339 #[gI k,gI j] w λe w'=>e=iA (G (pa ns (Nd.gZ j)))/\Z [] w w':=by
 have d:Z [] w (w.alloc (gH #[gI j] 66)):=(Z.refl _ _).alloc _;have m:∀x,BJ w x->BJ _ x:=λx ⟨c,n⟩=>⟨c,d.at n (by simp)⟩;have I:=fP h.il 3;have y:=ja h.il;go_enter func339,ntmps339;go_wp21;refine(aiC kv ns base w.heap.size j _ (d.ownsRow h.row (λ_ _=>by simp)) (λx H=>m x (D x H)) (m _ q) (by simp) h.le).mono ?_;rintro e w'⟨rfl,rfl⟩;go_wp2;go_ret;simp_all
theorem MH(h:El base w k name av ji kv ns){m:Nat}(H:m<ns.length):∃g cap,kv=nX g ns.length cap/\w.cell? ⟨g,m,none⟩=some ns[m].val:=by
 rcases h.row.2 with⟨_,D⟩|⟨g,cap,n,rfl,_,d,y,_,_,q⟩;omega;refine⟨g,cap,rfl,?_⟩;rw[fP d];have:(n.toList.take (ns.length*1))[m]?=some ns[m].val:=by grind
 grind
theorem OZ(base k m D:Nat)(name d s:O)(av kv:gP)(ji:jj)(ns:List Nd)(w:J)(h:El base w k name av ji kv ns)(hm:m<ns.length)(hx:ns[m]=.tx D)(ht:w.heap[D]?=some (gH #[Y d] 277))(a6:d.size+s.size<=1048576):
  Calls prog 173 #[place k (m+1),Y s] w λe w'=>e=qs/\w'.heap[D]?=some (gH #[Y (d++s)] 277)/\Z [D] w w':=by
 obtain⟨g,cap,rfl,c4⟩:=MH h hm;rw[hx]at c4;have a3:=ja h.il;have a8:=ja ht;have a4:=h.le;obtain⟨w1,n⟩:∃w1,w1=w.alloc (gH #[gI k,G ((m+1:Nat))] 228):=⟨_,rfl⟩;have q:Z [] w w1:=by rw[n];exact(Z.refl _ _).alloc _
 have g1:w1.heap[w.heap.size]?=some (gH #[gI k,G ((m+1:Nat))] 228):=by rw[n];exact fU w _
 have h1:=h.kept q (by simp) (by simp);have y:=q.at ht (by simp);have I:=fP g1 0;have U:=fP g1 1;have a0:=fP h1.il 3;dsimp at I U a0;have cG:w1.cell? ⟨g,m,none⟩=some (Nd.tx D).val:=by
  have⟨g',cap',e,c⟩:=MH h1 hm;injection e with e1;injection e1 with e2;injection e2 with e3;rw[e3,c,hx]
 unfold Nd.val at cG;have cT:=fP y 0;have fT:=gx y 0;dsimp at cT;have a7:=abk (X:=274) underlying274;have H:=V n;have a5:(m:Int)<ns.length:=by omega
 clear n;go_enter func173,ntmps173;go_wp21;rw[show((m+1:Nat):Int)=(m:Int)+1 by omega]at H;rw[<-H.out]
 go_quiet (fail)
 have a1:=cT;have a2:=fT;have HB:=gh (w:=w1.drewN nq) y 0 (Y (d++s));have HK:=((q.mono (S':=[D]) (by simp)).drewN nq).setCell (p:=⟨D,0,none⟩) (.inl (by simp)) (Y (d++s));go_wp2;refine uF (QU rfl _ _ _) rfl ?_;grind
theorem SI(base k n:Nat)(name s:O)(av kv:gP)(ji:jj)(ns:List Nd)(w:J)(h:El base w k name av ji kv ns)(hn:n<=ns.length)(Q:J->Prop)(y:∀w1,Z [] w w1->Calls prog 166 #[place k n,(Nd.tx w1.heap.size).val] (w1.alloc (gH #[Y s] 277)) λe w'=>e=qs/\Q w')(hx:∀m,(hm:m<ns.length)->n=m+1->∀t,ns[m]≠ .tx t):
  Calls prog 173 #[place k n,Y s] w λe w'=>e=qs/\Q w':=by
 have a6:=ja h.il;have a7:=h.le;obtain⟨w1,d⟩:∃w1,w1=w.alloc (gH #[gI k,G n] 228):=⟨_,rfl⟩;have k1:Z [] w w1:=by rw[d];exact(Z.refl _ _).alloc _
 have g1:w1.heap[w.heap.size]?=some (gH #[gI k,G n] 228):=by rw[d];exact fU w _
 have h1:=h.kept k1 (by simp) (by simp);have a0:=fP g1 0;have H:=fP g1 1;dsimp at a0 H;have D:=V d;have I:w1.heap.size=w.heap.size+1:=by rw[d];simp
 by_cases h0:n=0
 .subst h0;have hP:=y w1 k1;rw[I,d]at hP;have U:=(hP);clear d I;go_enter func173,ntmps173;go_wp21;refine U.mono ?_;rintro e w'⟨rfl,HR⟩;go_wp2;go_end0;grind
 .obtain⟨m,rfl⟩:∃m,n=m+1:=⟨n-1,by omega⟩;have hm:m<ns.length:=by omega
  have a9:=hx m hm rfl;have⟨g,cap,hkv,c4⟩:=MH h1 hm;subst hkv;have a1:=fP h1.il 3;dsimp at a1;have a2:∀(xT:TypeId)(w:J),(Instr.typeAssert ns[m].val xT 274 true).run prog w=.ok (.tuple #[.pointer none,.bool false]) w:=by
   intro xT w;cases hq:ns[m]with
   |tx t=>grind
   |el t=>exact I7 (X:=274) underlying274 rfl (by decide) _ _ _
   |cm t=>exact I7 (X:=274) underlying274 rfl (by decide) _ _ _
   |dt t=>exact I7 (X:=274) underlying274 rfl (by decide) _ _ _
  have U:=
   λq=>y (w1.drewN q) (k1.drewN q)
  have⟨xt,xp,hxv⟩:=Ja ns[m];rw[hxv]at c4 a2;have a8:(m:Int)<ns.length:=by omega
  have a3:w1.cell? ⟨w.heap.size,1,none⟩=some (G ((m:Int)+1)):=H;have a4:w.heap.size<w1.heap.size:=by omega
  rw[show((m+1:Nat):Int)=(m:Int)+1 by omega]at D;have a5:=V I;clear d I;go_enter func173,ntmps173;go_wp21;rw[<-D.out]
  go_quiet (fail)
  go_wp21;refine(U nq).mono ?_;rintro e w'⟨rfl,HR⟩;go_wp2;go_end0;grind
theorem BJ.kept{x:Nd}(h:BJ w x)(d:Z [] w w'):BJ w' x:=by
 have⟨c,hc⟩:=h;exact⟨c,d.at hc (by simp)⟩
theorem El.acO(h:El base w k name av ji kv ns):BJ w (.el k):=⟨_,h.il⟩
def Ri(w:J)(o:Obj):∃W,W=w.alloc o/\Z [] w W/\W.heap[w.heap.size]?=some o/\W.heap.size=w.heap.size+1:=⟨_,rfl,(Z.refl _ _).alloc _,fU w _,by simp⟩
def afs(base j:Nat)(name:O)(av kv:gP)(ns:List Nd)(w:J)(h:El base w j name av none kv ns):
  Calls prog 312 #[gI j] w λe w'=>e=iA (.tuple #[.agg #[.pointer none,G 0],.bool false])/\Z [] w w':=by
 have n:=(fP h.il 2).trans rfl;have m:=ja h.il;have d:=(Z.refl [] w).alloc (gH #[.pointer none,G 0] 228);go_enter func312,ntmps312;go_wp2;refine uF ?_ rfl ⟨rfl,d⟩;simp[results,results312,asAddr,Result.andThen,go_sem]
def acD(base j p:Nat)(name U:O)(av kv H I:gP)(m:jj)(ns d:List Nd)(w:J)(h:El base w j name av (some p) kv ns)(hp:El base w p U H m I d)(hn:∀x∈d,BJ w x):
  Calls prog 312 #[gI j] w λe w'=>e=iA (.tuple #[.agg #[gI p,G (pa d (Nd.gZ j))],.bool true])/\Z [] w w':=by
 have⟨w1,hw1,HK1,HG1,z1⟩:=Ri w (gH #[.pointer none,G 0] 228);have c2:=(fP (HK1.at h.il (by simp)) 2).trans rfl;have a4:=ja h.il;have y:j≠w.heap.size:=by omega
 have CI:=(λ(W:J) (hk:Z [] w W)=>Mx base p j U H I m d W (hp.kept hk (by simp) (λ_ _=>by simp)) (λx hx=>(hn x hx).kept hk) (h.acO.kept hk));have a3:w.cell? ⟨j,2,none⟩=some (gI p):=(fP h.il 2).trans rfl;have a2:=V hw1;have HB:=h.il;clear hw1;generalize pa d (Nd.gZ j)=q at CI|-;go_enter func312,ntmps312;go_wp21;rw[<-a2.out]
 go_region_held3 (λw'=>w'.cell? ⟨j,2,none⟩=some (gI p)) ((first|assumption|go_keep|exact(lR y).trans (by assumption)|exact(lR y).trans ((lR y).trans (by omega)))) ((go_at_call 339;refine(CI _ HK1.drew).mono ?_;rintro e w2⟨rfl,n⟩;have K2:Z [] w w2:=HK1.drew.trans n;have d2:w2.cell? ⟨j,2,none⟩=some (gI p):=(fP (K2.at HB (by simp)) 2).trans rfl;have D:w2.heap[w.heap.size]?=some (gH #[.pointer none,G 0] 228):=((Z.refl [] w1).drew.trans n).at HG1 (by simp);have e0:w2.cell? ⟨w.heap.size,0,none⟩=some (.pointer none):=(fP D 0).trans rfl;have e1:w2.cell? ⟨w.heap.size,1,none⟩=some (G 0):=(fP D 1).trans rfl;have y0:=gx D 0;have y1:=gx D 1;have a0:=V D;have a1:=V K2;clear D K2 n))
 all_goals (try (go_wp21))
 have hb:=gh (gh a0 0 (gI p)) 1 (G q);have hc:=fP hb;refine uF ?_ rfl ⟨rfl,(a1.setCell (p:=⟨w.heap.size,0,none⟩) (.inr (ic _)) _).setCell (p:=⟨w.heap.size,1,none⟩) (.inr (ic _)) _⟩;simp[results,results312,asAddr,Result.andThen,go_sem,hc]
def ZN(base j:Nat)(name:O)(av kv:gP)(ns:List Nd)(w:J)(h:El base w j name av none kv ns):
  Calls prog 365 #[gI j] w λe w'=>e=qs/\w'=w:=by
 have d:=(fP h.il 2).trans rfl;go_wp2;go_end0;simp
theorem ajy{h d:jL}(q:i<ns.length)(m:base<=g)(n:w'.heap[g]?=some (gH d 138))(hz:d.size=cap)(hn:ns.length<=cap)(D:cap<=maxLen)(H:h.toList.take ns.length=ns.map Nd.val)(I:d.toList.take (ns.length-1)=(h.toList.take ns.length).take i++(h.toList.take ns.length).drop (i+1)):
  w'.ownsRow base 138 1 (nX g (ns.length-1) cap) (ns.eraseIdx i).length ((ns.eraseIdx i).map Nd.val):=by
 have y:(ns.eraseIdx i).length=ns.length-1:=by rw[abA q]
 have U:(ns.eraseIdx i).map Nd.val=(h.toList.take ns.length).take i++(h.toList.take ns.length).drop (i+1):=by
  rw[H,List.eraseIdx_eq_take_drop_succ,rZ,lp,List.map_drop]
 refine⟨by simp,.inr ⟨g,cap,d,by rw[y],m,n,by omega,D,by omega,?_⟩⟩;grind
def aaa(base p i g cap:Nat)(I:O)(y:gP)(q:jj)(h:List Nd)(n:jL)(w:J)(D H:Bool)(W:J):Prop:=
 if H then (∃m,El base W p I y q m (h.eraseIdx i)/\m.ownBlock=some g)/\Z [p,g] w W else if D then Z [g] w W/\∃d,W.heap[g]?=some (gH d 138)/\d.size=cap/\d.toList.take (h.length-1)=(n.toList.take h.length).take i++(n.toList.take h.length).drop (i+1)else Z [] w W
theorem aaa.any{p:Nat}{D:O}{m:gP}{d:jj}{H:List Nd}{y:jL}{n q:Bool}(h:aaa base p i g cap D m d H y w n q W):Z [p,g] w W:=by
 unfold aaa at h;split at h;exact h.2;split at h;exact h.1.mono (by simp);exact h.mono (by simp)
theorem Kf(base j p i:Nat)(name a3:O)(av kv a1 a0:gP)(I:jj)(ns d:List Nd)(w:J)(h:El base w j name av (some p) kv ns)(hp:El base w p a3 a1 I a0 d)(hn:∀x∈d,BJ w x)(ai:j≠p)(ae:∀g,kv.ownBlock=some g->a0.ownBlock≠some g)(hi:i<d.length)(a4:pa d (Nd.gZ j)=(i:Int)):
  Calls prog 365 #[gI j] w λe w'=>e=qs/\(∃D,El base w' p a3 a1 I D (d.eraseIdx i)/\D.ownBlock=a0.ownBlock)/\El base w' j name av none kv ns/\Z (j::p::a0.ownBlock.toList) w w':=by
 obtain⟨g,cap,m,rfl,af,y,U,aj,ak,aa⟩:∃g cap m,a0=nX g d.length cap/\base<=g/\w.heap[g]?=some (gH m 138)/\d.length<=cap/\cap<=maxLen/\m.size=cap/\m.toList.take d.length=d.map Nd.val:=by
  rcases hp.row.2 with⟨_,e0⟩|⟨g,cap,m,e,hb,y,U,hm,hs,ht⟩;omega;exact⟨g,cap,m,e,hb,y,U,hm,by omega,by grind⟩
 have CI:=V (Mx base p j a3 a1 _ I d w hp hn h.acO);rw[a4]at CI;have ah:g≠p:=by have:=hp.rR hp.il (by decide);simpa [Value.ownBlock]using this
 have ag:g≠j:=by have:=hp.rR h.il (by decide);simpa [Value.ownBlock]using this
 have c2:w.cell? ⟨j,2,none⟩=some (gI p):=(fP h.il 2).trans rfl;have CD:Hid (∀(W:J),Z [] w W->Calls prog 377 #[nX g d.length cap,G i,G ((i:Int)+1)] W λe w'=>e=iA (nX g (d.length-1) cap)/\
   ∃n,w'.heap[g]?=some (gH n 138)/\n.size=cap/\n.toList.take (d.length-1)=(m.toList.take d.length).take i++(m.toList.take d.length).drop (i+1)/\Z [g] W w'):=V (λW hk=>by
  rw[show((i:Int)+1)=((i+1:Nat):Int) by omega];have az:=aig g cap i (i+1) d.length m W (hk.at y (by simp)) U ak (by omega) (by omega) hp.le (by rw[aa];exact aaU d)
  rwa [show i+1-i=1 by omega]at az)
 have aC:(0:Int)<=(i:Int):=by omega
 have aB:(i:Int)<1048576:=by have:=hp.le;omega
 have H:=V h;have HP:=V hp;have al:=V ae;have ax:=V U;have aw:=V aj;have ay:=V aa;have HI:=V hi;have am:=V af;have a6:=V ai;have ap:=V ah;have a5:=V ag;clear h hp hn ae U aj aa hi af ai ah ag y ak a4;go_enter func365,ntmps365;go_wp21;refine CI.out.mono ?_;rintro e w1⟨rfl,a2⟩;have ar:=V a2;have d2:w1.cell? ⟨j,2,none⟩=some (gI p):=(fP (a2.at H.out.il (by simp)) 2).trans rfl;have d3:w1.cell? ⟨p,3,none⟩=some (nX g d.length cap):=(fP (a2.at HP.out.il (by simp)) 3).trans rfl;clear a2 c2;go_wp21;refine Xz (by rfl) ?_;refine oT (λ(u:Unit) z=>⟨#[gI j,undef,G i,gI j,gI j,j5 j 2,gI p,.bool true,gI j,gI j,j5 j 2,gI p,gI j,G i,cd z 0 (gI j),cd z 1 (gI j),cd z 2 (j5 j 2),cd z 3 (gI p),cd z 4 (gI j),cd z 5 (gI j),cd z 6 (j5 j 2),cd z 7 (gI p),cd z 8 (gI p),cd z 9 (j5 p 3),cd z 10 (nX g d.length cap),cd z 11 (G i),cd z 12 (G i),cd z 13 (G ((i:Int)+1)),cd z 14 (nX g (d.length-1) cap),cd z 15 (gI p),cd z 16 (j5 p 3),undef,undef,undef],[]⟩) (λu z W=>aaa base p i g cap a3 a1 I d m w (dn z 14) (dn z 17) W) 18 [[],[0],[1],[2],[],[4],[5],[6],[7],[8],[9],[],[],[12],[4,5,6,7,8,9,10,11,12,13],[3],[15],[0,1,2,3,4,5,6,7,8,9,10,11,12,13,14,15,16]] (()) rfl rfl (ar.out.drew) ?_ ?_
 .repeat' first|exact mg|refine mf ?_ ?_
  all_goals
   rintro u z W hI hc hn;simp[Bs]at hc;refine N2 rfl ?_;intro K' a7;simp only[lH,hc];have c0:W.cell? ⟨j,2,none⟩=some (gI p):=(fP (hI.any.at H.out.il (by have:=a5.out;have:=a6.out;simp;omega)) 2).trans rfl;have q:=hI
   try simp only[hc]at q
   try rw[hn 17 (by decide)]at q
   try rw[hn 14 (by decide)]at q
   try (have q:Z [] w W:=q;have c3:W.cell? ⟨p,3,none⟩=some (nX g d.length cap):=(fP (q.at HP.out.il (by simp)) 3).trans rfl)
   go_simp
   try rw[show IntKind.i64.wrap ((i:Int)+1)=(i:Int)+1 by rw[IntKind.wrap_i64];omega]
   first
   |refine a7 _ _ ⟨u,?_,(by rw[lY (by decide),lY (by decide)];exact hI)⟩
   |refine(CD.out W q).mono ?_;rintro e w2⟨rfl,n,a8,ab,a9,aA⟩;refine a7 _ _ ⟨u,?_,(by rw[pX,lY (by decide),hn 17 (by decide)];exact⟨(Z.mono q (by simp)).trans aA,n,a8,ab,a9⟩)⟩
   |have⟨q,n,a8,ab,a9⟩:=q;have g2:=q.at HP.out.il (by have:=ap.out;simp;omega);have c3:W.cell? ⟨p,3,none⟩=some (nX g d.length cap):=(fP g2 3).trans rfl;have y3:=gx g2 3;go_simp;refine a7 _ _ ⟨u,?_,(by rw[pX];exact⟨⟨_,HP.out.abd (g2.trans HP.out.il.symm) (ajy HI.out am.out a8 ab ax.out aw.out ay.out a9) (by rw[abA HI.out];have:=HP.out.le;omega),rfl⟩,(Z.mono q (by simp)).setCell (p:=⟨p,3,none⟩) (.inl (by simp)) _⟩)⟩
   simp[pr,wy,lH,hc]
 .rintro u W hI;rw[vO,vO]at hI;simp only[vJ];have⟨⟨D,hE,ho⟩,hk⟩:=hI;have Ji:=H.out.kept hk (by have:=a5.out;have:=a6.out;simp;omega) (λx hx=>by
   have h1:=al.out x hx;have h2:=H.out.rR HP.out.il (by decide);rw[hx]at h2;simp[Value.ownBlock]at h1 h2;simp;omega)
  have an:=V hE;have ac:=V ho;have au:=V hk;have aq:=V (Ji.agX none);have j2:W.cell? ⟨j,2,none⟩=some (gI p):=(fP Ji.il 2).trans rfl;have z2:=gx Ji.il 2;clear hE ho hk Ji;rename_i KK ad;refine ad _ _ ?_;clear ad KK;go_wp2;go_end0;refine⟨rfl,⟨D,an.out.kept ((Z.refl [j] W).setCell (p:=⟨j,2,none⟩) (.inl (by simp)) _) (by have:=a6.out;simp;omega) (λx hx=>?_),ac.out⟩,aq.out,?_⟩;rw[ac.out]at hx;have e:=Ki hx;have:=a5.out;simp;omega;refine(au.out.mono (S':=j::p::[g]) ?_).setCell (p:=⟨j,2,none⟩) (.inl (by simp)) _;simp
structure wN where
 name:O
 gR:lu
 ji:jj
 kids:List Nd
inductive A8
 |el (e:wN)
 |tx (s:O)
 |cm (s:O)
 |dt (s:O)
structure N where
 nodes:List A8
 gq:kY
 act:kY
 head:jj
 form:jj
 mode:Nat
 kept:Nat
 waiting:List (Nat×Nat×O)
 im:Bool
 jA:Bool
 gQ:Nat
 behind:Bool
 nW:O
 iU:Bool
 fresh:Bool
 qZ:Nat
 sB:Nat
 qu:Nat
variable {σ:N}
inductive qQ(α:Type)
 |ok (a:α) (σ:N)
 |stop (e:Nat) (gQ:Nat)
 |stuck
def M(α:Type):=N->qQ α
namespace M
def pure{α:Type}(a:α):M α:=λσ=> .ok a σ
def bind{α d:Type}(m:M α)(f:α->M d):M d:=λσ=>match m σ with
 | .ok a σ'=>f a σ'
 | .stop e p=> .stop e p
 | .stuck=> .stuck
instance :Monad M where
 pure:=M.pure
 bind:=M.bind
end M
theorem M.gw{α d:Type}(m:M α)(f:α->M d)(σ:N):(m>>=f) σ=match m σ with
 | .ok a σ'=>f a σ'
 | .stop e p=> .stop e p
 | .stuck=> .stuck:=rfl
def stuck{α:Type}:M α:=λ_=> .stuck
def uL(f:N->N):M Unit:=λσ=> .ok () (f σ)
def N.gU(σ:N)(i:Nat):Option wN:=match σ.nodes[i]? with
 |some (.el e)=>some e
 |_=>none
def N.gZ(σ:N)(x:jj):Bool:=match x with
 |none=>true
 |some i=>(σ.gU i).isSome
def N.nk(σ:N)(x:jj):Bool:=match x with
 |none=>false
 |some i=>(σ.gU i).isSome
theorem N.xB(h:σ.nk x=true):σ.gZ x=true:=by
 cases x with
 |none=>rfl
 |some i=>exact h
def N.jr(σ:N):Nd->Bool
 | .el i=>(σ.gU i).isSome
 | .tx i=>match σ.nodes[i]? with|some (.tx _)=>true|_=>false
 | .cm i=>match σ.nodes[i]? with|some (.cm _)=>true|_=>false
 | .dt i=>match σ.nodes[i]? with|some (.dt _)=>true|_=>false
def N.gW(σ:N)(i:Nat)(e:wN):N:={σ with nodes:=σ.nodes.set i (.el e)}
def N.add(σ:N)(n:A8):N:={σ with nodes:=σ.nodes++[n]}
def N.qt(σ:N)(n:A8)(d:Bool):N:={σ with nodes:=σ.nodes++[n],fresh:=d}
def akR:O:=fN
def akQ:O:=fR
def oA(s:O):Bool:=ld s akR||ld s akQ
structure Wf(σ:N):Prop where
 gq:∀x∈σ.gq,σ.nk x=true
 act:∀x∈σ.act,σ.gZ x=true
 head:σ.gZ σ.head=true
 form:σ.gZ σ.form=true
 ji:∀i e,σ.gU i=some e->σ.gZ e.ji=true
 kids:∀i e,σ.gU i=some e->∀k∈e.kids,σ.jr k=true
 wA:(σ.gU 0).isSome=true
theorem N.io{e:wN}(h:σ.gU i=some e):i<σ.nodes.length:=by
 unfold N.gU at h;grind
theorem N.jp{e:wN}(h:σ.gU i=some e):σ.nodes[i]?=some (.el e):=by
 unfold N.gU at h;grind
theorem N.Yi{e:wN}(h:σ.nodes[i]?=some (.el e)):σ.gU i=some e:=by
 grind[N.gU]
def words(s:O):List O:=(Lib.fields s.data.toList).map λl=>⟨l.toArray⟩
def AK(L:List (O×gP))(ks:List O)(v:gP):List (O×gP):=ks.foldl (λL k=>EP L k v) L
theorem VT(L:List (O×gP))(ks:List O)(v:gP)(n:Nat)(d:n<ks.length):AK L (ks.take (n+1)) v=EP (AK L (ks.take n) v) ks[n] v:=by
 grind[List.take_succ_eq_append_getElem,AK]
abbrev sT(w:J):Prop:=Lib.TabIs prog w "strings.asciiSpace" .u8 Lib.asciiSpaceTab
def rl(s:O):Bool:=decide (s.size<4096)&&s.data.toList.all (λb=>decide (b.toNat<128))&&decide ((words s).length<=4096)
theorem PR(s:O)(w:J)(d:rl s=true)(m:sT w):
  Calls prog 87 #[Y s] w λe w'=>e=iA (nX w.heap.size (words s).length (words s).length)/\w'=w.alloc (gH ((words s).map Value.string).toArray 9):=by
 unfold rl at d;simp only[xh,abB,qp]at d;refine(Tryz.strings_Fields s w (by omega) (λj b h=>d.1.2 b (ahs h)) m).mono ?_;grind[List.map_inj_left,words]
theorem anI(b:Nat)(s:O)(v:gP)(L:List (O×gP))(w:J)(D:rl s=true)(ht:sT w)(hm:tP w b L):
  Calls prog 93 #[.map (some b),Y s,v] w λe w'=>e=iA (.map (some b))/\tP w' b (AK L (words s) v)/\Z [b] w w':=by
 have q:(words s).length<=4096:=by
  unfold rl at D;simp only[xh,abB]at D;exact D.2
 have U:=PR s w D ht;have HM:=hm;clear D ht hm;generalize words s=ks at U q|-;go_enter func93,ntmps93;go_wp21;refine U.mono ?_;rintro e w1⟨rfl,m⟩;have HG:w1.heap[w.heap.size]?=some (gH (ks.map Value.string).toArray 9):=by rw[m];exact fU w _
 have HK:Z [] w w1:=by rw[m];exact(Z.refl _ _).alloc _
 have H:=HM.kept HK (by simp);have a0:b≠w.heap.size:=by have:=HM.lt;omega
 clear m;go_wp2
 go_loopw [12] (λi wr=>∃k:Nat,k<=ks.length/\i=G k/\tP wr b (AK L (ks.take k) v)/\Z [b] w wr/\wr.heap[w.heap.size]?=some (gH (ks.map Value.string).toArray 9)) (λi _=>ks.length-(intOf i).toNat)
 case atStart=>exact⟨0,xj _,rfl,H,HK.mono (by simp),HG⟩
 case round=>
  obtain⟨k,hk,rfl,h,n,d⟩:=hrel;by_cases y:k<ks.length
  .have c1:wr.cell? ⟨w.heap.size,k,none⟩=some (Y ks[k]):=by rw[fP d];simp[y]
   have⟨w2,r2,HM2,k2,z2⟩:=Ws (T:=166) (E:=164) (by simp) h ks[k] v;have a2:=n.trans k2;have a1:=k2.at d (by grind);have HS:=V (VT L ks v k y);clear h n d k2 z2;go_wp2;go_roundw
   case rel=>grind[Hid.out]
   case measure=>simp[intOf];omega
  .have I:k=ks.length:=by omega
   have a3:=(show tP wr b (AK L ks v) by grind);clear h d I;go_wp2;go_ret;simp_all
def BV(L:List (O×Nat)):List (O×gP):=L.map λp=>(p.1,G p.2)
def xw:List (O×Nat)->O->Nat
 |[],_=>0
 |p::L,k=>if ld k p.1 then p.2 else xw L k
def VY:List (O×Nat)->O->Nat->List (O×Nat)
 |[],k,v=>[(k,v)]
 |p::L,k,v=>if ld k p.1 then (k,v)::L else p::VY L k v
def Mk:∀(L:List (O×Nat))(k:O),(Bw (BV L) k).getD (G 0)=G (xw L k)
 |[],_=>rfl
 |p::L,k=>by
  show(if ld k p.1 then some _ else Bw _ k).getD _=_;unfold xw;split;rfl;exact Mk L k
def VZ:∀(L:List (O×Nat))(k:O)(v:Nat),EP (BV L) k (G v)=BV (VY L k v)
 |[],_,_=>rfl
 |p::L,k,v=>by
  show(if ld k p.1 then (k,Value.int .i64 (v))::BV L else (p.1,Value.int .i64 _)::EP (BV L) k _)=_;unfold VY;split;rfl;rw[VZ L k v];rfl
theorem PW:∀(L:List (O×Nat))(k:O)(v:Nat)(s:O),xw (VY L k v) s=if ld s k then v else xw L s
 |[],k,v,s=>rfl
 |p::L,k,v,s=>by
  unfold VY;by_cases d:ld k p.1=true;grind[xw,ld];rw[Xx d];unfold xw;rw[PW L k v s];grind[ld]
def wQ(L:List (O×Nat))(c:Nat)(ks:List O):List (O×Nat):=ks.foldl (λL k=>VY L k (xw L k|||c)) L
theorem abQ(L:List (O×Nat))(ks:List O)(c n:Nat)(d:n<ks.length):wQ L c (ks.take (n+1))=VY (wQ L c (ks.take n)) ks[n] (xw (wQ L c (ks.take n)) ks[n]|||c):=by
 grind[List.take_succ_eq_append_getElem,wQ]
def aoy:∀a c:Fin 16,a.1|||c.1<16:=by decide
theorem uN{c:Nat}(d:c<16)(ks:List O):∀(L:List (O×Nat)),(∀s,xw L s<16)->∀s,xw (wQ L c ks) s<16:=by
 induction ks with
 |nil=>simp[wQ]
 |cons k ks ih=>
  intro L h;refine ih _ λs=>?_;rw[PW];split;exact aoy ⟨_,h k⟩ ⟨c,d⟩;grind
def amj:∀a c:Fin 16,IntKind.i64.wrap (((BitVec.ofInt 64 (a.1:Int))|||(BitVec.ofInt 64 (c.1:Int))).toNat:Int)=((a.1|||c.1:Nat):Int):=by decide
def ah0:∀a c:Fin 16,IntKind.i64.wrap (((BitVec.ofInt 64 (a.1:Int))&&& (BitVec.ofInt 64 (c.1:Int))).toNat:Int)=((a.1&&& c.1:Nat):Int):=by decide
def ah6(a c:Nat)(d:a<16)(h:c<16):bits .or .i64 (a:Int) (c:Int)=((a|||c:Nat):Int):=amj ⟨a,d⟩ ⟨c,h⟩
def aeB(a c:Nat)(d:a<16)(h:c<16):bits .and .i64 (a:Int) (c:Int)=((a&&& c:Nat):Int):=ah0 ⟨a,d⟩ ⟨c,h⟩
theorem alf(b:Nat)(s:O)(c:Nat)(L:List (O×Nat))(w:J)(hp:rl s=true)(ht:sT w)(hm:tP w b (BV L))(hc:c<16)(hL:∀s,xw L s<16):
  Calls prog 53 #[.agg #[.map (some b)],G c,Y s] w λe w'=>e=qs/\tP w' b (BV (wQ L c (words s)))/\Z [b] w w':=by
 have U:(words s).length<=4096:=by
  unfold rl at hp;simp only[xh,abB]at hp;exact hp.2
 have k0:Z [] w (w.alloc (gH #[.map (some b)] 88)):=(Z.refl _ _).alloc _;have g0:=fU w (gH #[.map (some b)] 88);have HF:=PR s (w.alloc (gH #[.map (some b)] 88)) hp (Lib.tabIs_alloc ht _);have HM:=hm.kept k0 (by simp);have a7:=hm.lt;have HL:=hL;clear hp ht hm hL;generalize words s=ks at HF U|-;obtain⟨w0,H⟩:∃w0,w0=w.alloc (gH #[.map (some b)] 88):=⟨_,rfl⟩;go_enter func53,ntmps53;go_wp21;refine HF.mono ?_;rintro e w1⟨rfl,n⟩;rw[<-H]at n g0 k0 HM;have a5:w0.heap.size=w.heap.size+1:=by rw[H];simp
 have HG:w1.heap[w.heap.size+1]?=some (gH (ks.map Value.string).toArray 9):=by rw[n,<-a5];exact fU w0 _
 have k1:Z [] w0 w1:=by rw[n];exact(Z.refl _ _).alloc _
 have a3:=k1.at g0 (by simp);have HK:=k0.trans k1;have a4:=HM.kept k1 (by simp);clear n k1 k0 g0;go_wp2
 go_loopw [11] (λi wr=>∃k:Nat,k<=ks.length/\i=G k/\tP wr b (BV (wQ L c (ks.take k)))/\Z [b] w wr/\wr.heap[w.heap.size+1]?=some (gH (ks.map Value.string).toArray 9)/\wr.heap[w.heap.size]?=some (gH #[.map (some b)] 88)) (λi _=>ks.length-(intOf i).toNat)
 case atStart=>exact⟨0,xj _,rfl,a4,HK.mono (by simp),HG,a3⟩
 case round=>
  obtain⟨k,hk,rfl,m,D,h,d⟩:=hrel;by_cases a1:k<ks.length
  .have c1:wr.cell? ⟨w.heap.size+1,k,none⟩=some (Y ks[k]):=by rw[fP h];simp[a1]
   have c2:=fP d 0;dsimp at c2;have y:=uN hc (ks.take k) L HL ks[k];have a0:=IY (T:=86) (E:=91) (z:=G 0) (by simp) (by simp) m ks[k];rw[Mk]at a0;have I:=ah6 _ c y hc;have⟨w2,r2,HM2,k2,z2⟩:=Ws (T:=86) (E:=91) (by simp) m ks[k] (G ((xw (wQ L c (ks.take k)) ks[k]|||c:Nat):Int));rw[VZ,<-abQ L ks c k a1]at HM2;have aa:=D.trans k2;have a9:=k2.at h (by grind);have a8:=k2.at d (by grind);obtain⟨q,hq⟩:∃q,q=xw (wQ L c (ks.take k)) ks[k]:=⟨_,rfl⟩;rw[<-hq]at a0 I r2;obtain⟨q2,a2⟩:∃q2:Nat,q2=q|||c:=⟨_,rfl⟩;rw[<-a2]at I r2;clear m D h d k2 z2 hq a2 y;go_wp2;go_roundw
   case rel=>grind
   case measure=>simp[intOf];omega
  .have a6:k=ks.length:=by omega
   have ab:=(show tP wr b (BV (wQ L c ks)) by grind);clear m h a6 d;go_wp2;go_end0;grind
def Xn:List O:=[jW,qM,oU,jd,iB,gS]
def Hi:List O:=[fN,fY,je,iE,iB,fR,oh,kA,nD,nE,pQ,⟨#[100,108]⟩,lF,mW,mX,⟨#[112,114,101]⟩,iQ,ik,jd,jW,qM,oU,fQ,fZ,fS,gS,fW,fX,fV,gN,ig,ij,ie,iX,jP]
def NQ:List O:=[mW,mX,lF,gL,gp,oh]
def abo:List O:=[fN,fQ,ig,ij,fZ,ie]
def sW:List (O×Nat):=wQ (wQ (wQ (wQ [] 1 Xn) 2 Hi) 4 NQ) 8 abo
theorem sT.kept(h:sT w)(m:Z S w w')(d:1∉S):sT w':=by
 unfold sT Lib.TabIs World.var? at *;have e:prog.globalNamed "strings.asciiSpace"=some 1:=rfl;grind[Z.block]
def KU(b:Nat)(s:O)(c:Nat)(L:List (O×Nat))(ks:List O)(w:J)(q:rl s=true)(d:words s=ks)(y:sT w)(n:tP w b (BV L))(m:c<16)(h:∀s,xw L s<16):
  Calls prog 53 #[.agg #[.map (some b)],G c,Y s] w λe w'=>e=qs/\tP w' b (BV (wQ L c ks))/\Z [b] w w':=by
 rw[<-d];exact alf b s c L w q y n m h
def VB:∀s,xw [] s<16:=λ_=>Nat.zero_lt_succ 15
theorem DR(w:J)(ht:sT w):
  Calls prog 31 #[] w λe w'=>∃bm,e=iA (.agg #[.map (some bm)])/\tP w' bm (BV sW)/\Z [] w w'/\w.heap.size<=bm:=by
 have ah:=@run_makeMap prog;obtain⟨W,m⟩:∃W,W=((w.alloc (gH #[.map none] 88)).alloc (.map #[] 0)).alloc (gH #[.map (some (w.heap.size+1))] 88):=⟨_,rfl⟩;have kW:Z [] w W:=by rw[m];exact(((Z.refl _ _).alloc _).alloc _).alloc _
 have H0:W.heap[w.heap.size]?=some (gH #[.map none] 88):=by
  rw[m,Below.heap_alloc _ _ _ (by simp;omega),Below.heap_alloc _ _ _ (by simp)];exact fU w _
 have g1:W.heap[w.heap.size+1]?=some (.map #[] 0):=by
  rw[m,Below.heap_alloc _ _ _ (by simp)];have:=fU (w.alloc (gH #[.map none] 88)) (.map #[] 0)
  rwa [Xu]at this
 have H2:W.heap[w.heap.size+1+1]?=some (gH #[.map (some (w.heap.size+1))] 88):=by
  rw[m];have:=fU ((w.alloc (gH #[.map none] 88)).alloc (.map #[] 0)) (gH #[.map (some (w.heap.size+1))] 88)
  rwa [Xu,Xu]at this
 have HM:tP W (w.heap.size+1) (BV []):=⟨#[],0,g1,rfl⟩;have HG:1∉[w.heap.size+1]:=by
  have ag:1<w.heap.size:=by
   have h:=ht;unfold sT Lib.TabIs World.var? at h;have e:prog.globalNamed "strings.asciiSpace"=some 1:=rfl;simp only[e,Option.bind_some]at h;rcases D0 1 w.heap.size with h'|h';exact h';grind
  intro U;have:=List.mem_singleton.1 U;omega
 have HT:=ht.kept kW (by simp);have HK:=kW.mono (S':=[w.heap.size+1]) (by simp);have HW:=V m;clear m;go_enter func31,ntmps31;go_wp21;rw[<-HW.out];refine(KU (w.heap.size+1) _ 1 [] Xn W (by rfl) (by rfl) HT HM (by decide) VB).mono ?_;rintro e w1⟨rfl,a9,k1⟩;have D:=HT.kept k1 HG;have a4:=HK.trans k1;have a0:=k1.at H0 (by simp);have n:=V (k1.at H2 (by simp));have c1:=fP n.out 0;dsimp at c1;go_wp21;refine(KU (w.heap.size+1) _ 2 (wQ [] 1 Xn) Hi w1 rfl rfl D a9 (by decide) (uN (by decide) _ _ VB)).mono ?_;rintro e w2⟨rfl,aa,k2⟩;have H:=D.kept k2 HG;have a5:=a4.trans k2;have a1:=k2.at a0 (by simp);have q:=V (k2.at n (by simp));have c2:=fP q.out 0;dsimp at c2;go_wp21;refine(KU (w.heap.size+1) _ 4 (wQ (wQ [] 1 Xn) 2 Hi) NQ w2 (by rfl) (by rfl) H aa (by decide) (uN (by decide) _ _ (uN (by decide) _ _ VB))).mono ?_;rintro e w3⟨rfl,ab,k3⟩;have I:=H.kept k3 HG;have a6:=a5.trans k3;have a2:=k3.at a1 (by simp);have y:=V (k3.at q (by simp));have c3:=fP y.out 0;dsimp at c3;go_wp21;refine(KU (w.heap.size+1) _ 8 (wQ (wQ (wQ [] 1 Xn) 2 Hi) 4 NQ) abo w3 (by rfl) (by rfl) I ab (by decide) (uN (by decide) _ _ (uN (by decide) _ _ (uN (by decide) _ _ VB)))).mono ?_;rintro e w4⟨rfl,ac,k4⟩;have af:=I.kept k4 HG;have a7:=a6.trans k4;have d:=V (k4.at a2 (by simp));have a3:=V (k4.at y (by simp));have c4:=fP a3.out 0;have f4:=gx d 0;have ae:=fP d.out 0;dsimp at c4 ae;have a8:=(a7.mono (S':=[]) (λk hk hl=>by grind)).setCell (p:=⟨w.heap.size,0,none⟩) (.inr (ic _)) (.map (some (w.heap.size+1)));have ad:=ac.keeps (w':=w4.setCell ⟨w.heap.size,0,none⟩ (.map (some (w.heap.size+1)))) (Below.heap_setCell w4 ⟨w.heap.size,0,none⟩ _ _ (by simp));have c5:=fP (gh d 0 (.map (some (w.heap.size+1)))) 0;go_wp2;refine uF (v:=.agg #[.map (some (w.heap.size+1))]) ?_ rfl ⟨w.heap.size+1,rfl,ad,a8,by omega⟩;simp[results,f31,go_sem,c5]
def aY(L:List (O×Nat))(c:Nat)(s:O):Bool:=decide (xw L s&&& c≠0)
def kJ:O->Bool:=aY sW 1
def kT:O->Bool:=aY sW 2
def vj:O->Bool:=aY sW 4
def iI:O->Bool:=aY sW 8
def aap:∀s,xw sW s<16:=uN (by decide) _ _ (uN (by decide) _ _ (uN (by decide) _ _ (uN (by decide) _ _ VB)))
theorem ah2(b1 b2 bm c:Nat)(L:List (O×Nat))(w:J)(I:w.heap[b1]?=some (gH #[.map (some bm)] 88))(U:w.heap[b2]?=some (gH #[G c] 91))(y:tP w bm (BV L))(hc:c<16)(hL:∀s,xw L s<16):
  pk [b1,b2,bm] (.func (.func 54) #[] #[gI b1,gI b2]) (aY L c) w:=by
 refine⟨⟨_,_,rfl,enters_of func54 (by rfl) rfl,λW n s=>?_⟩,λe he=>?_⟩
 .have c1:=fP (pw n (by simp) I) 0;have c2:=fP (pw n (by simp) U) 0;dsimp at c1 c2;have h:=IY (T:=86) (E:=91) (z:=G 0) (by simp) (by simp) (y.keeps (n bm (by simp))) s;rw[Mk]at h;have d:=aeB _ c (hL s) hc;have hv:aY L c s=decide (xw L s&&& c≠0):=rfl;rw[hv];generalize xw L s=q at h d|-;obtain⟨D,m⟩:∃D:Nat,D=q&&& c:=⟨_,rfl⟩;rw[<-m]at d|-;clear I U y n hL m hv;by_cases H:D=0
  .subst H;go_enter func54,ntmps54;go_wp2;go_ret;simp
  .rw[Hl H];go_enter func54,ntmps54;go_wp2;go_ret;simp_all
 simp at he;rcases he with rfl|rfl|rfl;grind;grind;exact y.lt
def aiU(bB:Nat)(m1:Int)(w:J):
  Calls prog 97 #[gI bB,G m1] w λe w'=>e=iA (.func (.func 171) #[] #[gI w.heap.size,gI (w.heap.size+1)])/\w'=((w.alloc (gH #[gI bB] 117)).alloc (gH #[G m1] 173)):=by
 go_enter func97,ntmps97;go_wp2;go_ret;simp
def Sm(bB:Nat)(h:Fn)(d l1:jL)(w:J):
  Calls prog 89 #[gI bB,.func h d l1] w λe w'=>e=iA (.func (.func 165) #[] #[gI w.heap.size])/\w'=(w.alloc (gH #[.func h d l1] 206)):=by
 go_enter func89,ntmps89;go_wp2;go_ret;simp
def Sn(bB:Nat)(h:Fn)(d l1:jL)(w:J):
  Calls prog 121 #[gI bB,.func h d l1] w λe w'=>e=iA (.func (.func 218) #[] #[gI (w.heap.size+1),gI w.heap.size])/\w'=((w.alloc (gH #[gI bB] 117)).alloc (gH #[.func h d l1] 63)):=by
 go_enter func121,ntmps121;go_wp2;go_ret;simp
def aiV(h:Fn)(d m:jL)(w:J):
  Calls prog 125 #[.func h d m] w λe w'=>e=iA (.func (.func 223) #[] #[gI w.heap.size])/\w'=(w.alloc (gH #[.func h d m] 63)):=by
 go_enter func125,ntmps125;go_wp2;go_ret;simp
def So(bB:Nat)(h:Fn)(d l1:jL)(w:J):
  Calls prog 133 #[gI bB,.func h d l1] w λe w'=>e=iA (.func (.func 228) #[] #[gI w.heap.size,gI (w.heap.size+1)])/\w'=((w.alloc (gH #[gI bB] 117)).alloc (gH #[.func h d l1] 164)):=by
 go_enter func133,ntmps133;go_wp2;go_ret;simp
def Vu(bB:Nat)(h:Fn)(d l1:jL)(m2:Int)(w:J):
  Calls prog 118 #[gI bB,.func h d l1,G m2] w λe w'=>e=iA (.func (.func 215) #[] #[gI w.heap.size,gI (w.heap.size+1),gI (w.heap.size+1+1)])/\w'=(((w.alloc (gH #[gI bB] 117)).alloc (gH #[.func h d l1] 85)).alloc (gH #[G m2] 173)):=by
 go_enter func118,ntmps118;go_wp2;go_ret;simp
def Sq(bB:Nat)(h:Fn)(d l1:jL)(n:O)(m:Int)(w:J):
  Calls prog 120 #[gI bB,.func h d l1,Y n,G m] w λe w'=>e=iA (.func (.func 217) #[] #[gI w.heap.size,gI (w.heap.size+1),gI (w.heap.size+1+1),gI (w.heap.size+1+1+1)])/\w'=((((w.alloc (gH #[gI bB] 117)).alloc (gH #[.func h d l1] 85)).alloc (gH #[Y n] 9)).alloc (gH #[G m] 173)):=by
 go_enter func120,ntmps120;go_wp2;go_ret;exact⟨by simp,rfl⟩
def Lq:List TypeId:=[176,136,138,277,66,121,292,161,73,168,68]
def abF:List TypeId:=[176,136,138,277,66,121,292,161,168]
theorem TV(h:t∈abF):t∈Lq:=by
 revert t;decide
def Calm(w:J)(e:Nat):Prop:=(∃h d,w.heap[e]?=some (.map h d))\/∃c t,w.heap[e]?=some (gH c t)/\t∉Lq
def Fr(bs:Nat)(w w':J):Prop:=∃S,Z S w w'/\∀k∈S,k<w.heap.size->(∃c t m,w.heap[k]?=some (.cells c t m)/\t∈abF)/\bs<=k
theorem Fr.ib(h:Z [] w w'):Fr bs w w':=⟨[],h,by grind⟩
theorem Fr.refl(w:J):Fr bs w w:=.ib (Z.refl _ _)
def Fr.size(h:Fr bs w w'):w.heap.size<=w'.heap.size:=by have⟨S,hk,_⟩:=h;exact hk.size
theorem Fr.calm(h:Fr bs w w')(n:Calm w e):w'.heap[e]?=w.heap[e]?:=by
 have⟨S,hk,hS⟩:=h;have m:e<w.heap.size:=by
  rcases n with⟨y,q,d⟩|⟨c,t,d,_⟩;grind;grind
 refine hk.block e m λI=>?_;rcases n with⟨y,q,d⟩|⟨H,U,d,D⟩
 all_goals grind[TV]
theorem Fr.trans{b c:J}(h:Fr bs a b)(k:Fr bs b c):Fr bs a c:=by
 have⟨S1,k1,h1⟩:=h;have⟨S2,k2,h2⟩:=k;refine⟨S1++S2,(k1.mono (λx n _=>by grind)).trans (k2.mono (λx n _=>by grind)),λx n d=>?_⟩;by_cases q:x∈S1;grind;have⟨⟨cc,t,m,hc,ht⟩,wO⟩:=h2 x (by simpa [q]using n) (nr d k1.size);grind[Z.block]
theorem Fr.j9(h:Z S w w')(d:∀k∈S,(∃c t m,w.heap[k]?=some (.cells c t m)/\t∈abF)/\bs<=k):Fr bs w w':=⟨S,h,by grind⟩
theorem Fr.cell(h:Fr bs w w')(d:w.heap[e]?=some (gH c t))(m:t∉Lq):w'.heap[e]?=some (gH c t):=(h.calm (.inr ⟨c,t,d,m⟩)).trans d
theorem Fr.kept(h:Fr bs w w')(d:Z [] a w)(n:a.heap.size<=bs):Z [] a w':=by
 have⟨S,hS,hT⟩:=h;refine⟨hS.os.trans d.os,hS.tape.trans d.tape,hS.output.trans d.output,jZ d.size hS.size,λk m _=>?_⟩;grind[Z.block]
theorem Fr.Bd(h:Fr bs w w'){m:Nat×Nat}(d:w.heap[e]?=some (.cells c t m))(n:t∉abF):w'.heap[e]?=some (.cells c t m):=by
 have⟨S,hS,hT⟩:=h;grind[Z.block]
def zw(bm:Nat)(w:J)(e:Nat):Prop:=(e=bm/\∃h d,w.heap[e]?=some (.map h d))\/∃c t,w.heap[e]?=some (gH c t)/\t∉Lq
def x9(bm:Nat)(w w':J):Prop:=∃S,Z S w w'/\∀k∈S,k<w.heap.size->(∃c t m,w.heap[k]?=some (.cells c t m)/\t∈Lq)\/((∃h d,w.heap[k]?=some (.map h d))/\k≠bm)
theorem Fr.n(h:Fr bs w w')(bm:Nat):x9 bm w w':=by
 have⟨S,hk,hS⟩:=h;exact⟨S,hk,λk d m=>by grind[TV]⟩
theorem x9.ib(h:Z [] w w'):x9 bm w w':=(Fr.ib (bs:=0) h).n bm
theorem x9.refl(bm:Nat)(w:J):x9 bm w w:=.ib (Z.refl _ _)
def x9.size(h:x9 bm w w'):w.heap.size<=w'.heap.size:=by have⟨S,hk,_⟩:=h;exact hk.size
theorem x9.of_map(h:Z [b] w w')(q:∃m d,w.heap[b]?=some (.map m d))(n:b≠bm):x9 bm w w':=⟨[b],h,by grind⟩
theorem x9.calm(h:x9 bm w w')(q:zw bm w e):w'.heap[e]?=w.heap[e]?:=by
 have⟨S,hk,hS⟩:=h;have n:e<w.heap.size:=by
  rcases q with⟨_,H,D,d⟩|⟨c,t,d,_⟩;grind;grind
 refine hk.block e n λhm=>?_;rcases hS e hm n with⟨c,t,m,h2,ht⟩|⟨⟨a0,U,h2⟩,a1⟩
 .rcases q with⟨_,H,D,d⟩|⟨I,t',d,y⟩
  all_goals grind
 .rcases q with⟨e1,H,D,d⟩|⟨I,t',d,y⟩
  all_goals grind
theorem zw.fr(d:zw bm w e)(h:x9 bm w w'):zw bm w' e:=by
 have e1:=h.calm d;grind[zw]
theorem x9.trans{b c:J}(h:x9 bm a b)(k:x9 bm b c):x9 bm a c:=by
 have⟨S1,k1,h1⟩:=h;have⟨S2,k2,h2⟩:=k;refine⟨S1++S2,(k1.mono (λx n _=>by grind)).trans (k2.mono (λx n _=>by grind)),λx n d=>?_⟩;by_cases m:x∈S1;grind;have e:=k1.block x d m;grind
theorem x9.cell(h:x9 bm w w')(d:w.heap[e]?=some (gH c t))(m:t∉Lq):w'.heap[e]?=some (gH c t):=(h.calm (.inr ⟨c,t,d,m⟩)).trans d
def y9(w:J):Prop:=sT w/\∃c t,w.heap[1]?=some (gH c t)/\t∉Lq
theorem y9.fr(d:y9 w)(h:x9 bm w w'):y9 w':=by
 have⟨lV,c,t,hc,ht⟩:=d;have e1:=h.calm (.inr ⟨c,t,hc,ht⟩);refine⟨?_,c,t,e1.trans hc,ht⟩;unfold sT Lib.TabIs World.var? at lV|-;have e:prog.globalNamed "strings.asciiSpace"=some 1:=rfl;grind
def Ask(bm:Nat)(v:gP)(p:O->Bool)(w:J):Prop:=∃E,pk E v p w/\∀e∈E,zw bm w e
theorem Ask.fr(h:Ask bm v p w)(d:x9 bm w w'):Ask bm v p w':=by
 have⟨E,hA,hC⟩:=h;exact⟨E,hA.keeps (λk n=>d.calm (hC k n)) d.size,λe m=>(hC e m).fr d⟩
theorem Ask.call(h:Ask bm v p w):∃k m,v=.func (.func k) #[] m/\(∀d w,(callFunc k d).run prog w=.ok (.enter k d) w)/\∀W,x9 bm w W->∀s,Calls prog k (#[Y s]++m) W λe W'=>e=iA (.bool (p s))/\W'=W:=by
 have⟨E,hA,hC⟩:=h;have⟨k,m,hv,he,ha⟩:=hA.ex;exact⟨k,m,hv,he,λW q s=>ha W (λe n=>q.calm (hC e n)) s⟩
def Si(bm g cap:Nat)(d:List O)(w:J)(D:w.heap[g]?=some (gH (d.map Value.string).toArray 9))(h:d.length<=4096):
  Calls prog 216 #[nX g d.length cap] w λe w'=>(∃v,e=iA v/\Ask bm v (gO d) w')/\Z [] w w':=by
 refine(akz g cap _ w).mono ?_;rintro e w'⟨rfl,rfl⟩;have y:Z [] w (w.alloc (gH #[nX g d.length cap] 33)):=(Z.refl _ _).alloc _;have m:=fU w (gH #[nX g d.length cap] 33);have n:=y.at D (by simp);refine⟨⟨_,rfl,_,afL _ g cap d _ m n h,λe q=>?_⟩,y⟩;simp at q;rcases q with rfl|rfl;exact .inr ⟨_,_,m,by decide⟩;exact .inr ⟨_,_,n,by decide⟩
def aaf(bm c:Nat)(L:List (O×Nat))(w:J)(I:tP w bm (BV L))(H:c<16)(D:∀s,xw L s<16):
  Calls prog 32 #[.agg #[.map (some bm)],G c] w λe w'=>(∃v,e=iA v/\Ask bm v (aY L c) w')/\Z [] w w':=by
 have h:Calls prog 32 #[.agg #[.map (some bm)],G (c)] w λe w'=>e=iA (.func (.func 54) #[] #[gI w.heap.size,gI (w.heap.size+1)])/\w'=(w.alloc (gH #[.map (some bm)] 88)).alloc (gH #[G (c)] 91):=by
  go_wp2;go_ret;exact⟨by simp,rfl⟩
 refine h.mono ?_;rintro e w'⟨rfl,rfl⟩;have U:Z [] w (w.alloc (gH #[.map (some bm)] 88)):=(Z.refl _ _).alloc _;have q:=U.alloc (gH #[G (c)] 91);have d:=fU (w.alloc (gH #[.map (some bm)] 88)) (gH #[G (c)] 91);rw[Xu]at d;have m:=(Below.heap_alloc (w.alloc (gH #[.map (some bm)] 88)) (gH #[G (c)] 91) w.heap.size (by simp)).trans (fU w _);have y:=I.kept q (by simp);refine⟨⟨_,rfl,_,ah2 _ _ bm c L _ m d y H D,λe n=>?_⟩,q⟩;simp at n;rcases n with rfl|rfl|rfl;exact .inr ⟨_,_,m,by decide⟩;exact .inr ⟨_,_,d,by decide⟩;have⟨es,ck,ha,_⟩:=y;exact .inl ⟨rfl,es,ck,ha⟩
theorem Qq{d h:List Nat}{b1 b2:Nat}(m:zw bm w b1)(n:zw bm w b2)(c1:∀e∈d,zw bm w e)(c2:∀e∈h,zw bm w e):∀e∈b1::b2::(d++h),zw bm w e:=by
 grind
def ami(bm:Nat)(v1 v2:gP)(p q:O->Bool)(w:J)(D:Ask bm v1 p w)(H:Ask bm v2 q w):
  Calls prog 236 #[v1,v2] w λe w'=>(∃v,e=iA v/\Ask bm v (λs=>p s||q s) w')/\Z [] w w':=by
 have⟨E1,a1,c1⟩:=D;have⟨E2,a2,c2⟩:=H;refine(ajd E1 E2 v1 v2 p q w a1 a2).mono ?_;rintro e w'⟨⟨v,rfl,y,m,n⟩,h⟩;exact⟨⟨v,rfl,_,y,Qq (.inr ⟨_,_,m,by decide⟩) (.inr ⟨_,_,n,by decide⟩) (λe d=>(c1 e d).fr (.ib h)) (λe d=>(c2 e d).fr (.ib h))⟩,h⟩
theorem ai1(bm:Nat)(v1:gP)(p:O->Bool)(w:J)(q:Ask bm v1 p w):
  Calls prog 235 #[v1] w λe w'=>(∃v,e=iA v/\Ask bm v (λs=>!p s) w')/\Z [] w w':=by
 have⟨E1,a1,c1⟩:=q;refine(agh E1 v1 p w a1).mono ?_;rintro e w'⟨⟨v,rfl,m,h⟩,n⟩;refine⟨⟨v,rfl,_,m,λe d=>?_⟩,n⟩;simp at d;rcases d with rfl|d;exact .inr ⟨_,_,h,by decide⟩;grind[zw.fr,x9.ib]
inductive Ru
 |nil
 |nothing
 |iq (f:Nat)
 |o9 (m:Int)
 |gV (pf:Nat) (own:Bool)
 |ahead (f:Nat)
 |ends (f:Nat)
 |Sc (r:Ru)
 |sZ (ks:List O) (m:Int)
 |oX (ks:List O) (name:O) (m:Int)
 |item (ks:List O)
variable {R:List (List O×Ru)}{ms:List (Nat×List (List O×Ru))}{r:Ru}{rs:List (Ru×gP)}
abbrev iD(b:Nat):gP:=gI b
abbrev box(w:J)(b:Nat)(v:gP)(t:TypeId):Prop:=w.heap[b]?=some (gH #[v] t)
def oI(bm bB bD:Nat):Ru->gP->J->Prop
 | .nil,v,_=>v=.nilFunc
 | .nothing,v,_=>v=.func (.func 88) #[] #[]
 | .iq f,v,_=>v=.func (.func f) #[iD bB] #[]
 | .o9 m,v,w=>∃b1 b2,v=.func (.func 171) #[] #[iD b1,iD b2]/\box w b1 (iD bB) 117/\box w b2 (G m) 173
 | .gV pf own,v,w=>∃b1,v=.func (.func 165) #[] #[iD b1]/\box w b1 (.func (.func pf) #[iD (if own then bB else bD)] #[]) 206
 | .ahead f,v,w=>∃b1 b2,v=.func (.func 218) #[] #[iD b2,iD b1]/\box w b1 (iD bB) 117/\box w b2 (.func (.func f) #[iD bB] #[]) 63
 | .ends f,v,w=>∃b1,v=.func (.func 223) #[] #[iD b1]/\box w b1 (.func (.func f) #[iD bB] #[]) 63
 | .Sc r,v,w=>∃b1 b2 u,v=.func (.func 228) #[] #[iD b1,iD b2]/\box w b1 (iD bB) 117/\box w b2 u 164/\oI bm bB bD r u w
 | .sZ ks m,v,w=>∃b1 b2 b3 u,v=.func (.func 215) #[] #[iD b1,iD b2,iD b3]/\box w b1 (iD bB) 117/\box w b2 u 85/\Ask bm u (gO ks) w/\box w b3 (G m) 173
 | .oX ks name m,v,w=>∃b1 b2 b3 b4 u,v=.func (.func 217) #[] #[iD b1,iD b2,iD b3,iD b4]/\box w b1 (iD bB) 117/\box w b2 u 85/\Ask bm u (gO ks) w/\box w b3 (Y name) 9/\box w b4 (G m) 173
 | .item ks,v,w=>∃b1 b2 b3 d h,v=.func (.func 272) #[] #[iD b1,iD b2,iD b3]/\box w b1 (iD bB) 117/\box w b2 d 85/\Ask bm d (gO ks) w/\box w b3 h 85/\Ask bm h (λs=>kT s&&!gO [kA,oh] s) w
theorem box.fr(h:box w b v t)(d:x9 bm w w')(m:t∉Lq):box w' b v t:=d.cell h m
theorem oI.fr:∀{r:Ru} {v:gP} {w w':J},oI bm bB bD r v w->x9 bm w w'->oI bm bB bD r v w'
 | .nil,_,_,_,h,_=>h
 | .nothing,_,_,_,h,_=>h
 | .iq _,_,_,_,h,_=>h
 | .o9 _,_,_,_,⟨b1,b2,e,h1,h2⟩,hf=>⟨b1,b2,e,box.fr h1 hf (by decide),box.fr h2 hf (by decide)⟩
 | .gV _ _,_,_,_,⟨b1,e,h1⟩,hf=>⟨b1,e,box.fr h1 hf (by decide)⟩
 | .ahead _,_,_,_,⟨b1,b2,e,h1,h2⟩,hf=>⟨b1,b2,e,box.fr h1 hf (by decide),box.fr h2 hf (by decide)⟩
 | .ends _,_,_,_,⟨b1,e,h1⟩,hf=>⟨b1,e,box.fr h1 hf (by decide)⟩
 | .Sc _,_,_,_,⟨b1,b2,u,e,h1,h2,hr⟩,hf=>⟨b1,b2,u,e,box.fr h1 hf (by decide),box.fr h2 hf (by decide),hr.fr hf⟩
 | .sZ _ _,_,_,_,⟨b1,b2,b3,u,e,h1,h2,ha,h3⟩,hf=>⟨b1,b2,b3,u,e,box.fr h1 hf (by decide),box.fr h2 hf (by decide),ha.fr hf,box.fr h3 hf (by decide)⟩
 | .oX _ _ _,_,_,_,⟨b1,b2,b3,b4,u,e,h1,h2,ha,h3,h4⟩,hf=>⟨b1,b2,b3,b4,u,e,box.fr h1 hf (by decide),box.fr h2 hf (by decide),ha.fr hf,box.fr h3 hf (by decide),box.fr h4 hf (by decide)⟩
 | .item _,_,_,_,⟨b1,b2,b3,u1,u2,e,h1,h2,ha,h3,hb⟩,hf=>⟨b1,b2,b3,u1,u2,e,box.fr h1 hf (by decide),box.fr h2 hf (by decide),ha.fr hf,box.fr h3 hf (by decide),hb.fr hf⟩
def oZ:List (List O×Ru)->O->Option Ru
 |[],_=>none
 |p::R,k=>if gO p.1 k then some p.2 else oZ R k
def IsMap(bm bB bD b:Nat)(R:List (List O×Ru))(v:gP)(w:J):Prop:=
 ∃L,v=.map (some b)/\tP w b L/\∀k,match oZ R k with
  |some r=>∃u,Bw L k=some u/\oI bm bB bD r u w
  |none=>Bw L k=none
theorem IsMap.fr(h:IsMap bm bB bD b R v w)(m:x9 bm w w')(d:w'.heap[b]?=w.heap[b]?):IsMap bm bB bD b R v w':=by
 have⟨L,e,hm,hr⟩:=h;refine⟨L,e,hm.keeps d,λk=>?_⟩;grind[oI.fr]
theorem PV:∀(L:List (O×gP))(k:O)(v:gP)(s:O),Bw (EP L k v) s=if ld s k then some v else Bw L s
 |[],k,v,s=>rfl
 |p::L,k,v,s=>by
  unfold EP;by_cases d:ld k p.1=true;grind[Bw,ld];rw[Xx d];unfold Bw;rw[PV L k v s];grind[ld]
theorem U2(v:gP)(s:O)(ks:List O):∀(L:List (O×gP)),Bw (AK L ks v) s=if gO ks s then some v else Bw L s:=by
 induction ks with
 |nil=>grind[AK,gO]
 |cons k ks ih=>
  intro L;show Bw (AK _ ks v) s=_;grind[PV,gO]
theorem IsMap.at(h:IsMap bm bB bD b R v w):∃m d,w.heap[b]?=some (.map m d):=by
 have⟨L,e,⟨m,d,ha,_⟩,hr⟩:=h;grind
theorem Zf(bm bB bD b:Nat)(s:O)(ks:List O)(r:Ru)(R:List (List O×Ru))(v:gP)(w:J)(D:rl s=true)(h:words s=ks)(H:y9 w)(q:IsMap bm bB bD b R (.map (some b)) w)(m:b≠bm)(I:oI bm bB bD r v w):
  Calls prog 93 #[.map (some b),Y s,v] w λe w'=>e=iA (.map (some b))/\IsMap bm bB bD b ((ks,r)::R) (.map (some b)) w'/\Z [b] w w'/\x9 bm w w':=by
 have⟨L,_,hM,hR⟩:=q;refine(anI b s v L w D H.1 hM).mono ?_;rintro e w'⟨rfl,d,n⟩;have y:=x9.of_map n q.at m;rw[h]at d;refine⟨rfl,⟨_,rfl,d,λk=>?_⟩,n,y⟩;rw[U2];unfold oZ;cases hq:gO ks k<;>grind[oI.fr]
def aaR(bm bB bD:Nat)(w:J):IsMap bm bB bD w.heap.size [] (.map (some w.heap.size)) (w.alloc (.map #[] 0)):=⟨[],rfl,tP.new w,λ_=>rfl⟩
theorem ur(w:J)(d h:Obj):((w.alloc d).alloc h).heap[w.heap.size]?=some d/\((w.alloc d).alloc h).heap[w.heap.size+1]?=some h:=by
 grind[Below.heap_alloc,World.size_alloc,fU]
theorem pF(w:J)(d h m:Obj):(((w.alloc d).alloc h).alloc m).heap[w.heap.size]?=some d/\(((w.alloc d).alloc h).alloc m).heap[w.heap.size+1]?=some h/\(((w.alloc d).alloc h).alloc m).heap[w.heap.size+1+1]?=some m:=by
 grind[Below.heap_alloc,World.size_alloc,fU]
theorem JL(w:J)(d h m n:Obj):((((w.alloc d).alloc h).alloc m).alloc n).heap[w.heap.size]?=some d/\((((w.alloc d).alloc h).alloc m).alloc n).heap[w.heap.size+1]?=some h/\((((w.alloc d).alloc h).alloc m).alloc n).heap[w.heap.size+1+1]?=some m/\((((w.alloc d).alloc h).alloc m).alloc n).heap[w.heap.size+1+1+1]?=some n:=by
 grind[Below.heap_alloc,World.size_alloc,fU]
abbrev Ba(bm bB bD:Nat)(r:Ru)(w:J)(e:Ending)(w':J):Prop:=(∃v,e=iA v/\oI bm bB bD r v w')/\Z [] w w'
def qE(bm bB bD:Nat)(m:Int)(w:J):Calls prog 97 #[iD bB,G m] w (Ba bm bB bD (.o9 m) w):=by
 refine(aiU bB m w).mono ?_;rintro e w'⟨rfl,rfl⟩;have⟨h1,h2⟩:=ur w (gH #[iD bB] 117) (gH #[G m] 173);exact⟨⟨_,rfl,_,_,rfl,h1,h2⟩,((Z.refl _ _).alloc _).alloc _⟩
def pN(bm bB bD pf:Nat)(own:Bool)(w:J):Calls prog 89 #[iD bB,.func (.func pf) #[iD (if own then bB else bD)] #[]] w (Ba bm bB bD (.gV pf own) w):=by
 refine(Sm bB _ _ #[] w).mono ?_;rintro e w'⟨rfl,rfl⟩;exact⟨⟨_,rfl,_,rfl,fU w _⟩,(Z.refl _ _).alloc _⟩
def py(bm bB bD f:Nat)(w:J):Calls prog 121 #[iD bB,.func (.func f) #[iD bB] #[]] w (Ba bm bB bD (.ahead f) w):=by
 refine(Sn bB _ _ #[] w).mono ?_;rintro e w'⟨rfl,rfl⟩;have⟨h1,h2⟩:=ur w (gH #[iD bB] 117) (gH #[.func (.func f) #[iD bB] #[]] 63);exact⟨⟨_,rfl,_,_,rfl,h1,h2⟩,((Z.refl _ _).alloc _).alloc _⟩
def yT(bm bB bD f:Nat)(w:J):Calls prog 125 #[.func (.func f) #[iD bB] #[]] w (Ba bm bB bD (.ends f) w):=by
 refine(aiV _ _ #[] w).mono ?_;rintro e w'⟨rfl,rfl⟩;exact⟨⟨_,rfl,_,rfl,fU w _⟩,(Z.refl _ _).alloc _⟩
theorem oI.func(h:oI bm bB bD r v w)(d:r≠ .nil):∃f a l,v=.func f a l:=by
 cases r with
 |nil=>grind
 |nothing=>exact⟨_,_,_,h⟩
 |iq f=>exact⟨_,_,_,h⟩
 |o9 m=>have⟨_,_,e,_⟩:=h;grind
 |gV a b=>have⟨_,e,_⟩:=h;grind
 |ahead f=>have⟨_,_,e,_⟩:=h;grind
 |ends f=>have⟨_,e,_⟩:=h;grind
 |Sc r=>have⟨_,_,_,e,_⟩:=h;grind
 |sZ a b=>have⟨_,_,_,_,e,_⟩:=h;grind
 |oX a b c=>have⟨_,_,_,_,_,e,_⟩:=h;grind
 |item a=>have⟨_,_,_,_,_,e,_⟩:=h;grind
def Nh(bm bB bD:Nat)(r:Ru)(u:gP)(w:J)(h:r≠ .nil)(d:oI bm bB bD r u w):Calls prog 133 #[iD bB,u] w (Ba bm bB bD (.Sc r) w):=by
 obtain⟨f,a,l,rfl⟩:=d.func h;refine(So bB f a l w).mono ?_;rintro e w'⟨rfl,rfl⟩;have⟨h1,h2⟩:=ur w (gH #[iD bB] 117) (gH #[.func f a l] 164);exact⟨⟨_,rfl,_,_,_,rfl,h1,h2,d.fr (.ib (((Z.refl _ _).alloc _).alloc _))⟩,(((Z.refl _ _).alloc _).alloc _)⟩
theorem Ask.func(h:Ask bm v p w):∃f a l,v=.func f a l:=by
 grind[call]
def Ds(bm bB bD:Nat)(ks:List O)(m:Int)(u:gP)(w:J)(d:Ask bm u (gO ks) w):Calls prog 118 #[iD bB,u,G m] w (Ba bm bB bD (.sZ ks m) w):=by
 obtain⟨f,a,l,rfl⟩:=d.func;refine(Vu bB f a l m w).mono ?_;rintro e w'⟨rfl,rfl⟩;have⟨h1,h2,h3⟩:=pF w (gH #[iD bB] 117) (gH #[.func f a l] 85) (gH #[G m] 173);exact⟨⟨_,rfl,_,_,_,_,rfl,h1,h2,d.fr (.ib ((((Z.refl _ _).alloc _).alloc _).alloc _)),h3⟩,((((Z.refl _ _).alloc _).alloc _).alloc _)⟩
def EX(bm bB bD:Nat)(ks:List O)(name:O)(m:Int)(u:gP)(w:J)(d:Ask bm u (gO ks) w):Calls prog 120 #[iD bB,u,Y name,G m] w (Ba bm bB bD (.oX ks name m) w):=by
 obtain⟨f,a,l,rfl⟩:=d.func;refine(Sq bB f a l name m w).mono ?_;rintro e w'⟨rfl,rfl⟩;have⟨h1,h2,h3,h4⟩:=JL w (gH #[iD bB] 117) (gH #[.func f a l] 85) (gH #[Y name] 9) (gH #[G m] 173);exact⟨⟨_,rfl,_,_,_,_,_,rfl,h1,h2,d.fr (.ib (((((Z.refl _ _).alloc _).alloc _).alloc _).alloc _)),h3,h4⟩,(((((Z.refl _ _).alloc _).alloc _).alloc _).alloc _)⟩
structure nc where
 blank:Ru:=.nil
 kE:Ru:=.nil
 gV:Ru:=.nil
 iH:Ru:=.nil
 iw:Ru:=.nil
 start:Option (List (List O×Ru)):=none
 stop:Option (List (List O×Ru)):=none
 jS:Ru:=.nil
 kR:Ru:=.nil
 iy:Ru:=.nil
variable {sp:nc}
def sU(bm bB bD:Nat):Option (List (List O×Ru))->gP->J->Prop
 |none,v,_=>v=.map none
 |some R,v,w=>∃b,IsMap bm bB bD b R v w
theorem IsMap.lt(h:IsMap bm bB bD b R v w):b<w.heap.size:=by
 have⟨es,ck,ha⟩:=h.at;grind
def sU.ir{R:Option (List (List O×Ru))}(h:sU bm bB bD R v w)(d:Z [] w w'):sU bm bB bD R v w':=by
 cases R with
 |none=>exact h
 |some R=>
  have⟨b,hm⟩:=h;exact⟨b,hm.fr (.ib d) (d.block b hm.lt (by simp))⟩
structure lG(bm bB bD:Nat)(sp:nc)(v0 v1 v2 v3 v4 v5 v6 v7 v8 v9:gP)(w:J):Prop where
 blank:oI bm bB bD sp.blank v0 w
 kE:oI bm bB bD sp.kE v1 w
 gV:oI bm bB bD sp.gV v2 w
 iH:oI bm bB bD sp.iH v3 w
 iw:oI bm bB bD sp.iw v4 w
 start:sU bm bB bD sp.start v5 w
 stop:sU bm bB bD sp.stop v6 w
 jS:oI bm bB bD sp.jS v7 w
 kR:oI bm bB bD sp.kR v8 w
 iy:oI bm bB bD sp.iy v9 w
def lG.ir(h:lG bm bB bD sp v0 v1 v2 v3 v4 v5 v6 v7 v8 v9 w)(d:Z [] w w'):lG bm bB bD sp v0 v1 v2 v3 v4 v5 v6 v7 v8 v9 w':=
 have f:=.ib d
 ⟨h.blank.fr f,h.kE.fr f,h.gV.fr f,h.iH.fr f,h.iw.fr f,h.start.ir d,h.stop.ir d,h.jS.fr f,h.kR.fr f,h.iy.fr f⟩
def kj(bm bB bD:Nat)(sp:nc)(w:J)(e:Ending)(w':J):Prop:=
 ∃v0 v1 v2 v3 v4 v5 v6 v7 v8 v9,e=iA (.agg #[v0,v1,v2,v3,v4,v5,v6,v7,v8,v9])/\lG bm bB bD sp v0 v1 v2 v3 v4 v5 v6 v7 v8 v9 w'/\Z [] w w'
def BD(bB bD:Nat)(w:J):Prop:=w.cell? ⟨bB,187,none⟩=some (iD bD)/\bB<w.heap.size
def BD.ir(h:BD bB bD w)(d:Z [] w w'):BD bB bD w':=⟨(d.cell h.2 (by simp)).trans h.1,nr h.2 d.size⟩
abbrev vY:jL:=#[.nilFunc,.nilFunc,.nilFunc,.nilFunc,.nilFunc,.map none,.map none,.nilFunc,.nilFunc,.nilFunc]
def uu(w:J)(o:Obj):∃W,W=w.alloc o/\Z [] w W/\W.heap[w.heap.size]?=some o/\W.heap.size=w.heap.size+1:=⟨_,rfl,(Z.refl _ _).alloc _,fU w _,by simp⟩
theorem sU.MF{R:Option (List (List O×Ru))}(h:sU bm bB bD R v w)(d:Z [s] w w')(hs:w.heap[s]?=some (gH c t))(f:x9 bm w w'):sU bm bB bD R v w':=by
 cases R with
 |none=>exact h
 |some R=>
  have⟨b,hb⟩:=h;refine⟨b,hb.fr f (d.block b hb.lt ?_)⟩;grind[IsMap.at]
theorem lG.MF(h:lG bm bB bD sp v0 v1 v2 v3 v4 v5 v6 v7 v8 v9 w)(d:Z [s] w w')(hs:w.heap[s]?=some (gH c 168)):lG bm bB bD sp v0 v1 v2 v3 v4 v5 v6 v7 v8 v9 w':=
 have f:=⟨_,d,λk m _=>by
  have e:=List.mem_singleton.1 m;subst e;exact .inl ⟨_,_,_,hs,by decide⟩⟩
 ⟨h.blank.fr f,h.kE.fr f,h.gV.fr f,h.iH.fr f,h.iw.fr f,h.start.MF d hs f,h.stop.MF d hs f,h.jS.fr f,h.kR.fr f,h.iy.fr f⟩
def VX(v0 v1 v2 v3 v4 v5 v6 v7 v8 v9:gP):jz vY 0 [v0,v1,v2,v3,v4,v5,v6,v7,v8,v9]=#[v0,v1,v2,v3,v4,v5,v6,v7,v8,v9]:=by
 simp[jz]
def lr(h:w.heap[s]?=some (gH vY 168)):w.cell? ⟨s,0,none⟩=some .nilFunc/\w.cell? ⟨s,1,none⟩=some .nilFunc/\w.cell? ⟨s,2,none⟩=some .nilFunc/\w.cell? ⟨s,3,none⟩=some .nilFunc/\w.cell? ⟨s,4,none⟩=some .nilFunc/\w.cell? ⟨s,5,none⟩=some (.map none)/\w.cell? ⟨s,6,none⟩=some (.map none)/\w.cell? ⟨s,7,none⟩=some .nilFunc/\w.cell? ⟨s,8,none⟩=some .nilFunc/\w.cell? ⟨s,9,none⟩=some .nilFunc:=by
 simp only[fP h];simp
theorem jO(h:w1.heap[w.heap.size]?=some (gH vY 168))(n:Z [] w w1)(D:lG bm bB bD sp v0 v1 v2 v3 v4 v5 v6 v7 v8 v9 w1)(W:J)(d:W=w1.setCells w.heap.size 0 [v0,v1,v2,v3,v4,v5,v6,v7,v8,v9]):
  W.heap[w.heap.size]?=some (gH #[v0,v1,v2,v3,v4,v5,v6,v7,v8,v9] 168)/\lG bm bB bD sp v0 v1 v2 v3 v4 v5 v6 v7 v8 v9 W/\Z [] w W:=by
 have m:=la [v0,v1,v2,v3,v4,v5,v6,v7,v8,v9] w1 _ _ _ _ 0 h;have q:Z [w.heap.size] w1 W:=by rw[d];exact Z.setCells (.inl (by simp)) _ _ (Z.refl _ _)
 have y:Z [] w W:=by rw[d];exact Z.setCells (.inr (ic _)) _ _ n
 rw[VX,<-d]at m;grind[lG.MF]
def ly{t:Nat}{h:Func}{a:Act}(d:h.results=#[.cell t 168])(n:a.tmps.getD t undef=gI w.heap.size)(m:a.defers=[])
  (hs:W.heap[w.heap.size]?=some (gH #[v0,v1,v2,v3,v4,v5,v6,v7,v8,v9] 168)/\lG bm bB bD sp v0 v1 v2 v3 v4 v5 v6 v7 v8 v9 W/\Z [] w W):bodyPost prog h (kj bm bB bD sp w) .ret a W:=by
 have⟨hg,hr,hk⟩:=hs;refine uF ?_ m ⟨_,_,_,_,_,_,_,_,_,_,rfl,hr,hk⟩;simp[results,d];simp[(by simpa using n),go_sem,(fP hg)]
structure St(z:Bool)(bm bB bD:Nat)(w cw:J)(rs:List (Ru×gP))(ms:List (Nat×List (List O×Ru))):Prop where
 k:Z [] w cw
 g:z=true->cw.heap[w.heap.size]?=some (gH vY 168)
 t:y9 cw
 lt:bm<w.heap.size
 bZ:∀p∈rs,oI bm bB bD p.1 p.2 cw
 Hp:∀p∈ms,IsMap bm bB bD p.1 p.2 (.map (some p.1)) cw/\w.heap.size<=p.1/\p.1≠bm
 nd:(ms.map (·.1)).Nodup
def St.start(bm bB bD:Nat)(w:J)(h:y9 w)(d:bm<w.heap.size):St false bm bB bD w w [] []:=
 ⟨Z.refl _ _,nofun,h,d,nofun,nofun,.nil⟩
def St.aag(s:St false bm bB bD w w [] []):St true bm bB bD w (w.alloc (gH vY 168)) [] []:=
 ⟨(Z.refl _ _).alloc _,λ_=>fU w _,s.t.fr (bm:=bm) (.ib ((Z.refl _ _).alloc _)),s.lt,nofun,nofun,.nil⟩
def St.zero(s:St false bm bB bD w w [] []):∃W,W=w.alloc (gH vY 168)/\Hid (W.heap.size=w.heap.size+1)/\St true bm bB bD w W [] []:=⟨_,rfl,V (by simp),s.aag⟩
def St.BR{z:Bool}(s:St z bm bB bD w cw rs ms)(m:Z [] cw cw'):St z bm bB bD w cw' rs ms:=
 have f:x9 bm cw cw':=.ib m
 ⟨s.k.trans m,λh=>m.at (s.g h) (by simp),s.t.fr f,s.lt,λp d=>(s.bZ p d).fr f,λp d=>⟨(s.Hp p d).1.fr f (m.block _ (s.Hp p d).1.lt (by simp)),(s.Hp p d).2⟩,s.nd⟩
theorem St.call{z:Bool}(s:St z bm bB bD w cw rs ms)(m:Z [] cw cw')(n:oI bm bB bD r v cw'):St z bm bB bD w cw' ((r,v)::rs) ms:=
 have d:=s.BR m
 ⟨d.k,d.g,d.t,d.lt,λp h=>by
  rcases List.mem_cons.1 h with rfl|h;exact n;exact d.bZ p h,d.Hp,d.nd⟩
theorem St.map{z:Bool}(s:St z bm bB bD w cw rs ms):∃W b,W=cw.alloc (.map #[] 0)/\b=cw.heap.size/\St z bm bB bD w W rs ((b,[])::ms):=by
 have m:Z [] cw (cw.alloc (.map #[] 0)):=(Z.refl _ _).alloc _;have d:=s.BR m;refine⟨_,_,rfl,rfl,d.k,d.g,d.t,d.lt,d.bZ,λp h=>?_,?_⟩;rcases List.mem_cons.1 h with rfl|h;exact⟨aaR bm bB bD cw,s.k.size,by have:=s.k.size;have:=s.lt;show cw.heap.size≠bm;omega⟩;exact d.Hp p h;rw[wM,Kl];refine⟨λn=>?_,s.nd⟩;obtain⟨p,h,e⟩:=List.mem_map.1 n;have:=(s.Hp p h).1.lt;simp at e;omega
def St.on{z:Bool}{I:List (List O×Ru)}(s:St z bm bB bD w cw rs ((b,R)::ms))(H:Z [b] cw cw')(y:x9 bm cw cw')(hm:IsMap bm bB bD b I (.map (some b)) cw'):St z bm bB bD w cw' rs ((b,I)::ms):=by
 have q:=s.Hp (b,R) (by simp);have m:=s.nd;rw[wM,Kl]at m;refine⟨s.k.next H (λx hx=> .inr (by have:=List.mem_singleton.1 hx;subst this;exact q.2.1)),λhz=>H.at (s.g hz) ?_,s.t.fr y,s.lt,λp h=>(s.bZ p h).fr y,λp h=>?_,s.nd⟩;intro d;have e:=List.mem_singleton.1 d;obtain⟨es,ck,U⟩:=q.1.at;have D:=s.g hz;rw[e]at D;rw[show(b,R).1=b from rfl]at U;rw[U]at D;cases D;rcases List.mem_cons.1 h with rfl|h;exact⟨hm,q.2⟩;have n:=s.Hp p (abv _ h);refine⟨n.1.fr y (H.block _ n.1.lt λd=>?_),n.2⟩;have e:=List.mem_singleton.1 d;exact m.1 (e▸List.mem_map.2 ⟨p,h,rfl⟩)
theorem St.at{z:Bool}(s:St z bm bB bD w cw rs ms)(h:(r,v)∈rs):oI bm bB bD r v cw:=s.bZ (r,v) h
def St.qf{z:Bool}(s:St z bm bB bD w cw rs ms)(h:(b,R)∈ms):sU bm bB bD (some R) (.map (some b)) cw:=⟨b,(s.Hp (b,R) h).1⟩
def St.oL{z:Bool}(S:St z bm bB bD w cw rs ((b,R)::ms))(s:O)(ks:List O)(r:Ru)(D:rl s=true)(d:words s=ks)(H:oI bm bB bD r v cw):
  Calls prog 93 #[.map (some b),Y s,v] cw λe w'=>e=iA (.map (some b))/\St z bm bB bD w w' rs ((b,(ks,r)::R)::ms):=by
 have h:=S.Hp (b,R) (N1 ..);refine(Zf bm bB bD b s ks r R v cw D d S.t h.1 h.2.2 H).mono ?_;rintro e w'⟨m,n,q,y⟩;exact⟨m,S.on q y n⟩
def St.made{z:Bool}(S:St z bm bB bD w cw rs ms){args:jL}(C:Calls prog f args cw (Ba bm bB bD r cw))(m:r≠ .nil):
  Calls prog f args cw λe w'=>∃f a l,e=iA (.func f a l)/\St z bm bB bD w w' ((r,.func f a l)::rs) ms:=by
 refine C.mono ?_;rintro e w'⟨⟨x,rfl,d⟩,h⟩;obtain⟨f,a,l,rfl⟩:=d.func m;exact⟨f,a,l,rfl,S.call h d⟩
def St.abY{z:Bool}(S:St z bm bB bD w cw rs ms){args:jL}(C:Calls prog f args cw λe w'=>(∃v,e=iA v/\Ask bm v p w')/\Z [] cw w'):
  Calls prog f args cw λe w'=>∃f a l,e=iA (.func f a l)/\Ask bm (.func f a l) p w'/\St z bm bB bD w w' rs ms:=by
 refine C.mono ?_;rintro e w'⟨⟨x,rfl,d⟩,h⟩;obtain⟨f,a,l,rfl⟩:=d.func;exact⟨f,a,l,rfl,d,S.BR h⟩
def asks(bm:Nat)(w:J):∀p∈[(119,[fQ]),(131,[fW,fV,fX]),(230,[gN])],Calls prog p.1 #[] w λe w'=>(∃v,e=iA v/\Ask bm v (gO p.2) w')/\Z [] w w':=by
 intro p q;obtain⟨W,m,D,g,z⟩:=uu w (gH (p.2.map Value.string).toArray 9);have C:=Si bm w.heap.size p.2.length p.2 W g;have d:=V m;clear m;simp only[Db,tw,tz]at q;rcases q with rfl|rfl|rfl
 all_goals
  replace C:=C (by decide);dsimp only at C d|-
  first
  |go_enter func119,ntmps119
  |go_enter func131,ntmps131
  |go_enter func230,ntmps230
  go_wp2_with fail;have d:=d.out;simp at d;rw[<-d];clear d;refine C.mono ?_;rintro e w'⟨⟨v,rfl,n⟩,H⟩;have y:=V n;have h:=D.trans H;obtain⟨f,a,l,I⟩:=n.func;subst I;go_wp2;go_ret;exact⟨⟨_,rfl,y.out⟩,h⟩
def yI(bm:Nat)(v:gP)(p:O->Bool)(X:Nat->Prop)(w:J):Prop:=∃E,pk E v p w/\∀e∈E,zw bm w e/\¬X e
theorem yI.ask(h:yI bm v p X w):Ask bm v p w:=by
 have⟨E,hA,hE⟩:=h;grind[Ask]
theorem yI.kept(h:yI bm v p X w)(m:Z [] w w'):yI bm v p X w':=by
 have⟨E,hA,hE⟩:=h;exact⟨E,hA.ir m,λe d=>⟨(hE e d).1.fr (.ib m),(hE e d).2⟩⟩
def yI.other{m:Nat->Prop}(h:yI bm v p X w)(n:∀e,e<w.heap.size->m e->X e):yI bm v p m w:=by
 have⟨E,hA,hE⟩:=h;exact⟨E,hA,λe d=>⟨(hE e d).1,λq=>(hE e d).2 (n e (hA.lt e d) q)⟩⟩
def yI.of(h:Ask bm v p w)(m:∀e,e<w.heap.size->¬X e):yI bm v p X w:=by
 have⟨E,hA,hE⟩:=h;exact⟨E,hA,λe d=>⟨hE e d,m e (hA.lt e d)⟩⟩
theorem yI.set{bm k:Nat}{v:gP}{p:O->Bool}{X:Nat->Prop}{w:J}(h:yI bm v p X w)(n:X k)(u:gP):yI bm v p X (w.setCell ⟨k,0,none⟩ u):=by
 have⟨E,hA,hE⟩:=h;have m:=λe d=>Below.heap_setCell w ⟨k,0,none⟩ u e (λq=>(hE e d).2 (by grind));refine⟨E,hA.keeps m (by simp),λe d=>⟨?_,(hE e d).2⟩⟩;grind[zw]
theorem aaI(bm g cap:Nat)(d:List O)(X:Nat->Prop)(w:J)(D:w.heap[g]?=some (gH (d.map Value.string).toArray 9))(h:d.length<=4096)(H:∀e,X e->e<w.heap.size/\e≠g):
  Calls prog 216 #[nX g d.length cap] w λe w'=>(∃v,e=iA v/\yI bm v (gO d) X w')/\Z [] w w':=by
 refine(akz g cap _ w).mono ?_;rintro e w'⟨rfl,rfl⟩;have y:Z [] w (w.alloc (gH #[nX g d.length cap] 33)):=(Z.refl _ _).alloc _;have m:=fU w (gH #[nX g d.length cap] 33);have n:=y.at D (by simp);refine⟨⟨_,rfl,_,afL _ g cap d _ m n h,λe q=>?_⟩,y⟩;simp at q;rcases q with rfl|rfl;exact⟨.inr ⟨_,_,m,by decide⟩,by grind⟩;exact⟨.inr ⟨_,_,n,by decide⟩,by grind⟩
theorem aeG(bm:Nat)(v1 v2:gP)(p q:O->Bool)(X:Nat->Prop)(w:J)(D:yI bm v1 p X w)(H:yI bm v2 q X w)(I:∀e,X e->e<w.heap.size):
  Calls prog 271 #[v1,v2] w λe w'=>(∃v,e=iA v/\yI bm v (λs=>p s&&!q s) X w')/\Z [] w w':=by
 have⟨E1,a1,c1⟩:=D;have⟨E2,a2,c2⟩:=H;refine(aeH E1 E2 v1 v2 p q w a1 a2).mono ?_;rintro e w'⟨⟨v,rfl,y,m,n⟩,h⟩;refine⟨⟨v,rfl,_,y,λe d=>⟨Qq (.inr ⟨_,_,m,by decide⟩) (.inr ⟨_,_,n,by decide⟩) (λe d=>(c1 e d).1.fr (.ib h)) (λe d=>(c2 e d).1.fr (.ib h)) e d,λU=>?_⟩⟩,h⟩;grind
def XX(s5 s6:gP)(e:Nat):Prop:=iD e=s5\/iD e=s6
abbrev aih:List O:=[kA,oh]
abbrev amk:O->Bool:=λs=>kT s&&!gO aih s
structure TS(bm bB:Nat)(ks:List O)(sl u:gP)(w1:J)(b0 b1 b2 b3 b4 b5 b6 b7 b8 b9 b10 b11 b12:Bool)(s5 s6 s7 s8 s9 s10 s11 s12 s13 s14 s15:gP)(w:J):Prop where
 k:Z [] w1 w
 f0:b0=true->s7=sl
 f1:b1=true->yI bm s8 (gO ks) (XX s5 s6) w
 f2:b2=true->s9=iD bB
 f3:b3=true->s10=iD bB
 f4:b4=true->s11=j5 bB 184
 f5:b5=true->s12=u
 f6:b6=true->∃g,s13=nX g 2 2/\w.heap[g]?=some (gH #[Y kA,Y oh] 9)
 f7:b7=true->yI bm s14 (gO aih) (XX s5 s6) w
 f8:b8=true->yI bm s15 amk (XX s5 s6) w
 f9:if b9 then ∃k,s5=iD k/\w1.heap.size<=k/\box w k (if b11 then s8 else .nilFunc) 85 else s5=undef
 f10:if b10 then ∃k,s6=iD k/\w1.heap.size<=k/\box w k (if b12 then s15 else .nilFunc) 85 else s6=undef
 ne:b9=true->b10=true->s5≠s6
 d11:b11=true->b1=true/\b9=true
 d12:b12=true->b8=true/\b10=true
section
variable {bm bB:Nat}{ks:List O}{sl u:gP}{w1:J}{b0 b1 b2 b3 b4 b5 b6 b7 b8 b9 b10 b11 b12:Bool}{s5 s6 s7 s8 s9 s10 s11 s12 s13 s14 s15:gP}{w w':J}
theorem XX.lt(h:TS bm bB ks sl u w1 b0 b1 b2 b3 b4 b5 b6 b7 b8 b9 b10 b11 b12 s5 s6 s7 s8 s9 s10 s11 s12 s13 s14 s15 w){e:Nat}(d:XX s5 s6 e):w1.heap.size<=e/\∃v,box w e v 85:=by
 rcases d with d|d;have:=h.f9;cases b9 with
 |false=>rw[this]at d;simp[undef]at d
 |true=>grind
 have:=h.f10;cases b10 with
 |false=>rw[this]at d;simp[undef]at d
 |true=>grind
theorem TS.go(h:TS bm bB ks sl u w1 b0 b1 b2 b3 b4 b5 b6 b7 b8 b9 b10 b11 b12 s5 s6 s7 s8 s9 s10 s11 s12 s13 s14 s15 w)(d:Z [] w w'):TS bm bB ks sl u w1 b0 b1 b2 b3 b4 b5 b6 b7 b8 b9 b10 b11 b12 s5 s6 s7 s8 s9 s10 s11 s12 s13 s14 s15 w':=by
 refine⟨h.k.trans d,h.f0,λq=>(h.f1 q).kept d,h.f2,h.f3,h.f4,h.f5,λq=>?_,λq=>(h.f7 q).kept d,λq=>(h.f8 q).kept d,?_,?_,h.ne,h.d11,h.d12⟩
 all_goals grind[f6,Z.at,f9,f10]
end
theorem ajB(bm bB bD g cap:Nat)(ks:List O)(u:gP)(w:J)(hB:bB<w.heap.size)(hu:w.cell? ⟨bB,184,none⟩=some u)(hA:Ask bm u kT w)(h2:w.heap[g]?=some (gH (ks.map Value.string).toArray 9))(ah:ks.length<=4096):
  Calls prog 189 #[iD bB,nX g ks.length cap] w (Ba bm bB bD (.item ks) w):=by
 obtain⟨uf,ua,ul,rfl⟩:=hA.func;have⟨w1,hw1,HK,HG,HZ⟩:=uu w (gH #[iD bB] 117);have HU:=hu;have HB:=hB;have a7:=V hA;have H2:=h2;have a9:=ah;have HW:=V hw1;clear hA hw1;go_enter func189,ntmps189;go_wp21;refine Xz (by rfl) ?_;change wpAny _ _ _ _ _ _ _ (World.drew _);rw[<-HW.out];refine Jb (I:=λn a W=>∃b0 b1 b2 b3 b4 b5 b6 b7 b8 b9 b10 b11 b12 s5 s6 s7 s8 s9 s10 s11 s12 s13 s14 s15,n=#[b0,b1,b2,b3,b4,b5,b6,b7,b8,b9,b10,b11,b12]/\a=⟨#[iD bB,nX g ks.length cap,gI w.heap.size,undef,.nilFunc,s5,s6,s7,s8,s9,s10,s11,s12,s13,s14,s15,undef],[]⟩/\TS bm bB ks (nX g ks.length cap) (.func uf ua ul) w1 b0 b1 b2 b3 b4 b5 b6 b7 b8 b9 b10 b11 b12 s5 s6 s7 s8 s9 s10 s11 s12 s13 s14 s15 W) ?_ ?_ _ _ _ _ ?_ ?_
 .rintro n a W i⟨b0,b1,b2,b3,b4,b5,b6,b7,b8,b9,b10,b11,b12,s5,s6,s7,s8,s9,s10,s11,s12,s13,s14,s15,rfl,rfl,d⟩ hi;simp only[Region.ready,Xv,Xy]at hi;have⟨a3,hc⟩:=hi;have a3:i<13:=a3;obtain rfl|rfl|rfl|rfl|rfl|rfl|rfl|rfl|rfl|rfl|rfl|rfl|rfl:i=0\/i=1\/i=2\/i=3\/i=4\/i=5\/i=6\/i=7\/i=8\/i=9\/i=10\/i=11\/i=12:=by omega
  all_goals simp[Region.binds]at hc
  .refine N2 rfl ?_;intro H h;go_simp;refine h _ _ ?_
   iterate 24 apply Exists.intro
   refine⟨rfl,rfl,?_⟩;exact⟨d.k,λ_=>rfl,d.f1,d.f2,d.f3,d.f4,d.f5,d.f6,d.f7,d.f8,d.f9,d.f10,d.ne,d.d11,d.d12⟩
  .refine N2 rfl ?_;intro H h;have e7:=d.f0 hc.2;subst e7;have a1:b11=false:=by
    cases b11 with
    |false=>rfl
    |true=>have:=(d.d11 rfl).1;simp[hc.1]at this
   subst a1;have C:=(aaI bm g cap ks (XX s5 s6) W ((HK.trans d.k).at H2 (by simp)) a9 (λe m=>by
    have⟨h1,v,h3⟩:=XX.lt d m;grind))
   go_simp;refine C.mono ?_;rintro e w'⟨⟨v,rfl,U⟩,y⟩;have Ji:=d.go y;refine h _ _ ?_
   iterate 24 apply Exists.intro
   refine⟨rfl,rfl,?_⟩;exact⟨Ji.k,Ji.f0,λ_=>U,Ji.f2,Ji.f3,Ji.f4,Ji.f5,Ji.f6,Ji.f7,Ji.f8,Ji.f9,Ji.f10,Ji.ne,(λq=>by simp at q),Ji.d12⟩
  .refine N2 rfl ?_;intro H h;have c0:W.cell? ⟨w.heap.size,0,none⟩=some (iD bB):=(fP (d.k.at HG (by simp)) 0).trans rfl;go_simp;refine h _ _ ?_
   iterate 24 apply Exists.intro
   refine⟨rfl,rfl,?_⟩;exact⟨d.k,d.f0,d.f1,λ_=>rfl,d.f3,d.f4,d.f5,d.f6,d.f7,d.f8,d.f9,d.f10,d.ne,d.d11,d.d12⟩
  .refine N2 rfl ?_;intro H h;have e9:=d.f2 hc.2;subst e9;go_simp;refine h _ _ ?_
   iterate 24 apply Exists.intro
   refine⟨rfl,rfl,?_⟩;exact⟨d.k,d.f0,d.f1,d.f2,λ_=>rfl,d.f4,d.f5,d.f6,d.f7,d.f8,d.f9,d.f10,d.ne,d.d11,d.d12⟩
  .refine N2 rfl ?_;intro H h;have ab:=d.f3 hc.2;subst ab;go_simp;refine h _ _ ?_
   iterate 24 apply Exists.intro
   refine⟨rfl,rfl,?_⟩;exact⟨d.k,d.f0,d.f1,d.f2,d.f3,λ_=>rfl,d.f5,d.f6,d.f7,d.f8,d.f9,d.f10,d.ne,d.d11,d.d12⟩
  .refine N2 rfl ?_;intro H h;have ac:=d.f4 hc.2;subst ac;have c0:W.cell? ⟨bB,184,none⟩=some (.func uf ua ul):=((HK.trans d.k).cell (p:=⟨bB,184,none⟩) HB (by simp)).trans HU;go_simp;refine h _ _ ?_
   iterate 24 apply Exists.intro
   refine⟨rfl,rfl,?_⟩;exact⟨d.k,d.f0,d.f1,d.f2,d.f3,d.f4,λ_=>rfl,d.f6,d.f7,d.f8,d.f9,d.f10,d.ne,d.d11,d.d12⟩
  .refine N2 rfl ?_;intro H h;go_simp;have y:Z [] W (W.alloc (gH #[Y kA,Y oh] 9)):=(Z.refl _ _).alloc _;have Ji:=d.go y;refine h _ _ ?_
   iterate 24 apply Exists.intro
   refine⟨rfl,rfl,?_⟩;exact⟨Ji.k,Ji.f0,Ji.f1,Ji.f2,Ji.f3,Ji.f4,Ji.f5,λ_=>⟨_,rfl,fU W _⟩,Ji.f7,Ji.f8,Ji.f9,Ji.f10,Ji.ne,Ji.d11,Ji.d12⟩
  .refine N2 rfl ?_;intro H h;have⟨g3,e13,h13⟩:=d.f6 (by simp[hc]);subst e13;have C:=(aaI bm g3 2 aih (XX s5 s6) W h13 (by decide) (λe m=>by
    have⟨h1,v,h3⟩:=XX.lt d m;grind))
   go_simp;refine C.mono ?_;rintro e w'⟨⟨v,rfl,U⟩,y⟩;have Ji:=d.go y;refine h _ _ ?_
   iterate 24 apply Exists.intro
   refine⟨rfl,rfl,?_⟩;exact⟨Ji.k,Ji.f0,Ji.f1,Ji.f2,Ji.f3,Ji.f4,Ji.f5,Ji.f6,λ_=>U,Ji.f8,Ji.f9,Ji.f10,Ji.ne,Ji.d11,Ji.d12⟩
  .refine N2 rfl ?_;intro H h;have ad:=d.f5 (by simp[hc]);subst ad;have ae:=d.f7 (by simp[hc]);have a2:b12=false:=by
    cases b12 with
    |false=>rfl
    |true=>have:=(d.d12 rfl).1;simp[hc.1]at this
   subst a2;have ag:yI bm (.func uf ua ul) kT (XX s5 s6) W:=(yI.of (a7.fr (.ib HK)) (λe he m=>by have:=(XX.lt d m).1;omega)).kept d.k;have C:=(aeG bm (.func uf ua ul) s14 kT (gO aih) (XX s5 s6) W ag ae (λe m=>by
    have⟨h1,v,h3⟩:=XX.lt d m;exact ja h3))
   go_simp;refine C.mono ?_;rintro e w'⟨⟨v,rfl,U⟩,y⟩;have Ji:=d.go y;refine h _ _ ?_
   iterate 24 apply Exists.intro
   refine⟨rfl,rfl,?_⟩;exact⟨Ji.k,Ji.f0,Ji.f1,Ji.f2,Ji.f3,Ji.f4,Ji.f5,Ji.f6,Ji.f7,λ_=>U,Ji.f9,Ji.f10,Ji.ne,Ji.d11,(λq=>by simp at q)⟩
  .refine N2 rfl ?_;intro H h;have wO:b11=false:=by
    cases b11 with
    |false=>rfl
    |true=>have:=(d.d11 rfl).2;simp[hc]at this
   subst wO;have hb:b9=false:=by simpa using hc
   subst hb;have hs:s5=undef:=d.f9;subst hs;go_simp;have y:Z [] W (W.alloc (gH #[.nilFunc] 85)):=(Z.refl _ _).alloc _;have Ji:=d.go y;have hX:∀e,e<W.heap.size->XX (iD W.heap.size) s6 e->XX undef s6 e:=λe he m=>by
    rcases m with m|m
    .simp at m<;>omega
    exact .inr m
   refine h _ _ ?_
   iterate 24 apply Exists.intro
   refine⟨rfl,rfl,?_⟩;exact⟨Ji.k,Ji.f0,(λq=>((d.f1 q).other hX).kept y),Ji.f2,Ji.f3,Ji.f4,Ji.f5,Ji.f6,(λq=>((d.f7 q).other hX).kept y),(λq=>((d.f8 q).other hX).kept y),⟨_,rfl,d.k.size,fU W _⟩,Ji.f10,(λ_ q=>by subst q;have⟨k,e1,h1,h3⟩:=d.f10;grind),(λq=>by simp at q),Ji.d12⟩
  .refine N2 rfl ?_;intro H h;have wO:b12=false:=by
    cases b12 with
    |false=>rfl
    |true=>have:=(d.d12 rfl).2;simp[hc]at this
   subst wO;have hb:b10=false:=by simpa using hc
   subst hb;have hs:s6=undef:=d.f10;subst hs;go_simp;have y:Z [] W (W.alloc (gH #[.nilFunc] 85)):=(Z.refl _ _).alloc _;have Ji:=d.go y;have hX:∀e,e<W.heap.size->XX s5 (iD W.heap.size) e->XX s5 undef e:=λe he m=>by
    rcases m with m|m;exact .inl m;grind
   refine h _ _ ?_
   iterate 24 apply Exists.intro
   refine⟨rfl,rfl,?_⟩;exact⟨Ji.k,Ji.f0,(λq=>((d.f1 q).other hX).kept y),Ji.f2,Ji.f3,Ji.f4,Ji.f5,Ji.f6,(λq=>((d.f7 q).other hX).kept y),(λq=>((d.f8 q).other hX).kept y),Ji.f9,⟨_,rfl,d.k.size,fU W _⟩,(λq _=>by subst q;have⟨k,e1,h1,h3⟩:=d.f9;grind),Ji.d11,(λq=>by simp at q)⟩
  .refine N2 rfl ?_;intro H h;have wO:b11=false:=by simp[hc]
   subst wO;have hb:b9=true:=by simp[hc]
   have a0:b1=true:=by simp[hc]
   subst hb a0;have⟨k,hs,h1,h3⟩:=d.f9;subst hs;have⟨f,aa,ll,U⟩:=(d.f1 rfl).ask.func;subst U;have c0:W.cell? ⟨k,0,none⟩=some .nilFunc:=(fP h3 0).trans rfl;have c1:=gx h3 0;go_simp;have m:XX (iD k) s6 k:=.inl rfl;refine h _ _ ?_
   iterate 24 apply Exists.intro
   refine⟨rfl,rfl,?_⟩;refine⟨d.k.setCell (p:=⟨k,0,none⟩) (.inr h1) _,d.f0,(λq=>(d.f1 q).set m _),d.f2,d.f3,d.f4,d.f5,λq=>?_,(λq=>(d.f7 q).set m _),(λq=>(d.f8 q).set m _),⟨k,rfl,h1,(gh h3 0 _).trans rfl⟩,?_,d.ne,(λ_=>⟨rfl,rfl⟩),d.d12⟩;have⟨g3,e13,h13⟩:=d.f6 q;exact⟨g3,e13,(Below.heap_setCell W ⟨k,0,none⟩ _ g3 (zB h13 h3 (by decide))).trans h13⟩;have:=d.f10;split at this;rename_i hq;have⟨k2,e2,h4,h5⟩:=this;rw[sL hq];refine⟨k2,e2,h4,(Below.heap_setCell W ⟨k,0,none⟩ _ k2 (λq=>?_)).trans h5⟩;subst q;exact d.ne rfl hq e2.symm;grind
  .refine N2 rfl ?_;intro H h;have wO:b12=false:=by simp[hc]
   subst wO;have hb:b10=true:=by simp[hc]
   have a0:b8=true:=by simp[hc]
   subst hb a0;have⟨k,hs,h1,h3⟩:=d.f10;subst hs;have⟨f,aa,ll,U⟩:=(d.f8 rfl).ask.func;subst U;have c0:W.cell? ⟨k,0,none⟩=some .nilFunc:=(fP h3 0).trans rfl;have c1:=gx h3 0;go_simp;have m:XX s5 (iD k) k:=.inr rfl;refine h _ _ ?_
   iterate 24 apply Exists.intro
   refine⟨rfl,rfl,?_⟩;refine⟨d.k.setCell (p:=⟨k,0,none⟩) (.inr h1) _,d.f0,(λq=>(d.f1 q).set m _),d.f2,d.f3,d.f4,d.f5,λq=>?_,(λq=>(d.f7 q).set m _),(λq=>(d.f8 q).set m _),?_,⟨k,rfl,h1,(gh h3 0 _).trans rfl⟩,d.ne,d.d11,(λ_=>⟨rfl,rfl⟩)⟩;have⟨g3,e13,h13⟩:=d.f6 q;exact⟨g3,e13,(Below.heap_setCell W ⟨k,0,none⟩ _ g3 (zB h13 h3 (by decide))).trans h13⟩;have:=d.f9;split at this;rename_i hq;have⟨k2,e2,h4,h5⟩:=this;rw[sL hq];refine⟨k2,e2,h4,(Below.heap_setCell W ⟨k,0,none⟩ _ k2 (λq=>?_)).trans h5⟩;subst q;exact d.ne hq rfl e2;grind
 .rintro n a W⟨b0,b1,b2,b3,b4,b5,b6,b7,b8,b9,b10,b11,b12,s5,s6,s7,s8,s9,s10,s11,s12,s13,s14,s15,rfl,rfl,d⟩ D;simp only[Region.ready,abx,Xy]at D;have q0:=D 0 (by decide);simp[Region.binds]at q0;subst q0;have q1:=D 1 (by decide);simp[Region.binds]at q1;subst q1;have q2:=D 2 (by decide);simp[Region.binds]at q2;subst q2;have q3:=D 3 (by decide);simp[Region.binds]at q3;subst q3;have q4:=D 4 (by decide);simp[Region.binds]at q4;subst q4;have q5:=D 5 (by decide);simp[Region.binds]at q5;subst q5;have q6:=D 6 (by decide);simp[Region.binds]at q6;subst q6;have q7:=D 7 (by decide);simp[Region.binds]at q7;subst q7;have q8:=D 8 (by decide);simp[Region.binds]at q8;subst q8;have q9:=D 9 (by decide);simp[Region.binds]at q9;subst q9;have a4:=D 10 (by decide);simp[Region.binds]at a4;subst a4;have a5:=D 11 (by decide);simp[Region.binds]at a5;subst a5;have a6:=D 12 (by decide);simp[Region.binds]at a6;subst a6;have⟨k5,e5,h5,X5⟩:=d.f9;have⟨k6,e6,h6,X6⟩:=d.f10;subst e5 e6;have A1:=(d.f1 rfl).ask;have A2:=(d.f8 rfl).ask;have a8:=HK.trans d.k;have G2:=d.k.at HG (by simp);rename_i KK af;refine af _ _ ?_;go_wp2;go_ret;exact⟨⟨_,rfl,_,_,_,_,_,rfl,G2,X5,A1,X6,A2⟩,a8⟩
 decide;exact⟨false,false,false,false,false,false,false,false,false,false,false,false,false,undef,undef,undef,undef,undef,undef,undef,undef,undef,undef,undef,rfl,rfl,(Z.refl _ _).drew,by simp,by simp,by simp,by simp,by simp,by simp,by simp,by simp,by simp,rfl,rfl,by simp,by simp,by simp⟩
def TU(bm bB bD:Nat)(R:List (List O×Ru))(w:J)(e:Ending)(w':J):Prop:=∃b,e=iA (.map (some b))/\IsMap bm bB bD b R (.map (some b)) w'/\w.heap.size<=b/\b≠bm/\Z [] w w'
def St.mapOf{z:Bool}(s:St z bm bB bD w cw rs ms)(y:Z [] cw cw')(D:IsMap bm bB bD b R (.map (some b)) cw')(q:cw.heap.size<=b)(n:b≠bm):St z bm bB bD w cw' rs ((b,R)::ms):=by
 have d:=s.BR y;refine⟨d.k,d.g,d.t,d.lt,d.bZ,λp m=>?_,?_⟩;rcases List.mem_cons.1 m with rfl|m;exact⟨D,jZ s.k.size q,n⟩;exact d.Hp p m;rw[wM,Kl];refine⟨λh=>?_,s.nd⟩;obtain⟨p,m,e⟩:=List.mem_map.1 h;have:=(s.Hp p m).1.lt;simp at e;omega
def BS(bm bB:Nat)(w:J):Prop:=bB<w.heap.size/\∃u,w.cell? ⟨bB,184,none⟩=some u/\Ask bm u kT w
def BS.ir(h:BS bm bB w)(d:Z [] w w'):BS bm bB w':=by
 have⟨h1,u,hu,hA⟩:=h;exact⟨nr h1 d.size,u,(d.cell (p:=⟨bB,184,none⟩) h1 (by simp)).trans hu,hA.fr (.ib d)⟩
def St.slice{z:Bool}(s:St z bm bB bD w cw rs ms)(h:List O)(d:jL)(m:(h.map Value.string).toArray=d):∃W g,W=cw.alloc (gH d 9)/\g=cw.heap.size/\W.heap[g]?=some (gH (h.map Value.string).toArray 9)/\St z bm bB bD w W rs ms:=
 ⟨_,_,rfl,rfl,by rw[m];exact fU cw _,s.BR ((Z.refl _ _).alloc _)⟩
def Wr{z:Bool}(s:St z bm bB bD w cw rs ms)(wO:BS bm bB w)(g cap n:Nat)(ks:List O)(y:ks.length=n)(q:cw.heap[g]?=some (gH (ks.map Value.string).toArray 9))(d:ks.length<=4096):
  Calls prog 189 #[iD bB,nX g n cap] cw (Ba bm bB bD (.item ks) cw):=by
 subst y;obtain⟨h,u,D,m⟩:=wO.ir s.k;exact ajB bm bB bD g cap ks u cw h D m q d
def Wq(bm bB bD pf h:Nat)(own:Bool)(w:J)(d:h=if own then bB else bD):Calls prog 89 #[iD bB,.func (.func pf) #[iD h] #[]] w (Ba bm bB bD (.gV pf own) w):=by
 rw[d];exact pN bm bB bD pf own w
def dE:Calls prog 89 #[iD bB,.func (.func pf) #[iD bB] #[]] w (Ba bm bB bD (.gV pf true) w):=pN bm bB bD pf true w
def dD:Calls prog 89 #[iD bB,.func (.func pf) #[iD bD] #[]] w (Ba bm bB bD (.gV pf false) w):=pN bm bB bD pf false w
def dF:oI bm bB bD .nothing (.func (.func 88) #[] #[]) w:=rfl
def cR:oI bm bB bD (.iq f) (.func (.func f) #[iD bB] #[]) w:=rfl
def lO:nc:={blank:=.nothing,gV:=.gV 90 false,iH:=.nothing,start:=some [([fN],(.iq 94))],stop:=some [([fY,fR,fN,jW],(.iq 95))],kR:=.nothing,iy:=.iq 95}
def lQ:nc:={blank:=.nothing,gV:=.gV 96 true,iH:=.nothing,start:=some [([fY],(.iq 98)),([fN],(.o9 6))],stop:=some [([fY,fR,fN,jW],(.iq 99))],kR:=.nothing,iy:=.iq 99}
def jV:nc:={blank:=.iq 100,gV:=.gV 96 true,iH:=.nothing,start:=some [([iE],(.iq 103)),([je],(.iq 102)),([iB],(.iq 101)),([fN],(.o9 6)),([fY],.nothing)],stop:=some [([fR,fN,jW],(.iq 105)),([fY],(.iq 104))],kR:=.nothing,iy:=.iq 105}
def mP:nc:={blank:=.iq 100,gV:=.gV 96 true,iH:=.nothing,start:=some [([iB,je,iE],(.iq 107)),([fR],(.iq 106)),([fN],(.o9 6)),([fY],.nothing)],stop:=some [([fR,fN,jW],(.iq 108))],kR:=.nothing,iy:=.iq 108}
def rp:nc:={kE:=.iq 100,iw:=.iq 109,iy:=.iq 110}
def lj:nc:={kE:=.iq 127,iy:=.iq 128}
def xH:nc:={start:=some [([fZ,gS,fS,fW,ig,fV,ij,fX,gN],(.ahead 129))],stop:=some [([fR,gS,fS,fN,fW,ig,fV,ij,fX,gN],.nothing),([fQ],(.ahead 129)),([fZ],(.ends 129))],iy:=.o9 6}
def AR:nc:={kE:=.iq 116,gV:=.gV 96 true,iH:=.nothing,start:=some [([jd],(.iq 124)),([iQ],(.iq 123)),([iE],(.o9 3)),([fQ],(.ahead 122)),([ig,ij,gN],(.oX [fQ] fW 11)),([fW,fV,fX],(.sZ [fQ] 11)),([gS],(.oX [fQ] fS 10)),([fS],(.sZ [fQ] 10)),([fZ],(.iq 117))],stop:=some [([fR,fZ,gS,fS,fN,fW,ig,fV,ij,fX,gN],.nothing),([fQ],(.ends 122))],iy:=.iq 126}
def qi:nc:={blank:=.iq 100,gV:=.gV 96 true,iH:=.nothing,iw:=.o9 6,start:=some [([gS],(.iq 101)),([fN],(.o9 6))],stop:=some [([fS],(.ends 130)),([gS],.nothing)],iy:=.ahead 130}
def oS:nc:={start:=some [([fZ,gS,fS,fW,fV,fX],(.ahead 132)),([ig,ij],(.oX [fW,fV,fX] gN 12)),([gN],(.sZ [fW,fV,fX] 12))],stop:=some [([fR,fZ,gS,fS,fN,ig,ij,gN],.nothing),([fQ],(.ahead 132)),([fW,fV,fX],(.Sc (.ends 132)))],iy:=.o9 7}
def zR:nc:={start:=some [([fZ,gS,fS,fW,fV,fX,gN],(.ahead 135)),([ig,ij],(.iq 134))],stop:=some [([fR,fZ,gS,fS,fN,ig,ij],.nothing),([fW,fV,fX],(.Sc (.ahead 135))),([fQ],(.ahead 135)),([gN],(.ends 135))],iy:=.o9 7}
def Du:nc:={start:=some [([fZ,gS,fS,fW,ig,fV,ij,fX,gN],(.ahead 136))],stop:=some [([fR,fZ,gS,fS,fN],.nothing),([fQ,fW,fV,fX,gN],(.Sc (.ahead 136))),([ig,ij],(.Sc (.ends 136)))],iy:=.o9 6}
def yU:nc:={kE:=.iq 137,gV:=.gV 96 true,start:=some [([jd,jP],(.ahead 141)),([iX],(.ends 141)),([qM],(.iq 140)),([gp],(.iq 139)),([gL],(.iq 138)),([fN],(.o9 6))],stop:=some [([iX],(.ends 141)),([gL],(.iq 143)),([gp],(.iq 142))],iy:=.nothing}
def qI:nc:={start:=some [([fZ,fQ,fW,fV,fX,gN,ig,ij],(.ahead 141))],stop:=some [([fZ,fQ,fW,fV,fX,gN,ig,ij],(.Sc (.ahead 141)))],iy:=.o9 14}
def lz:List (List O×Ru):=[([ie],(.iq 209)),([uI,⟨#[98]⟩,⟨#[105]⟩,iJ],(.iq 208)),([iQ],(.iq 207)),([jW],(.iq 206)),([oh],(.iq 205)),([lF],(.iq 204)),([nD,nE],(.iq 203)),([kA,pQ,⟨#[100,108]⟩,⟨#[112,114,101]⟩,ik,mW,mX],(.iq 202)),([fN],(.iq 201)),([fR],(.iq 200))]
def lh:List (List O×Ru):=[([ie],(.iq 199)),([iJ],(.iq 198)),([⟨#[98]⟩,⟨#[105]⟩],(.iq 197)),([uI],(.iq 196)),([jW,oU,jd],(.iq 195)),([iX],(.iq 194)),([gL,gp],(.iq 193)),([jP],(.iq 192)),([fQ],(.iq 191)),([ik],(.iq 190)),([mW,mX],(.item [mW,mX])),([lF],(.item [lF])),([iQ],(.iq 188)),([qM],(.iq 187)),([nD,nE],(.iq 186)),([⟨#[112,114,101]⟩],(.iq 185)),([kA,pQ,⟨#[100,108]⟩,oh],(.iq 184)),([fY,fZ,gS,fS,fW,ig,fV,ij,fX,gN],.nothing),([iB,je,iE],(.o9 3)),([fR],(.iq 183)),([fN],(.iq 182))]
def nH(pf:Nat)(own:Bool):nc:={blank:=.o9 6,gV:=.gV pf own,iH:=.nothing,iw:=.nothing,start:=some [([fN],(.o9 6))],iy:=.iq 238}
def cC:List (Nat×nc):=[(60,{blank:=.nothing,gV:=.gV 90 false,iH:=.iq 91,iy:=.iq 92}),(61,lO),(62,lQ),(63,jV),(64,mP),(69,xH),(67,AR),(70,qi),(71,oS),(72,zR),(73,Du),(74,yU),(75,qI)]
def tt(bm bB bD:Nat)(w:J):Calls prog 65 #[iD bB] w (kj bm bB bD rp w)/\Calls prog 68 #[iD bB] w (kj bm bB bD lj w):=by
 constructor
 all_goals
  first
  |go_enter func65,ntmps65
  |go_enter func68,ntmps68
  go_wp2;exact ly rfl rfl rfl ⟨fU w _,⟨rfl,rfl,rfl,rfl,rfl,rfl,rfl,rfl,rfl,rfl⟩,(Z.refl _ _).alloc _⟩
def cQ(bm bB bD:Nat)(w:J)(U:BD bB bD w)(H:BS bm bB w)(ht:y9 w)(q:bm<w.heap.size):(∀p∈cC,Calls prog p.1 #[iD bB] w (kj bm bB bD p.2 w))/\(∀p∈[(112,lh),(114,lz)],Calls prog p.1 #[iD bB] w (TU bm bB bD p.2 w))/\∀pf y own,y=(if own then bB else bD)->Calls prog 144 #[iD bB,.func (.func pf) #[iD y] #[]] w (kj bm bB bD (nH pf own) w):=by
 have a0:=@run_makeMap prog;have HS:=St.start bm bB bD w ht q;have⟨zd,hBl⟩:=U;refine⟨λp n=>?_,λp n=>?_,λpf y own m=>?_⟩
 rotate_left 2
 have I:=V m;clear m
 rotate_left 1
 all_goals try (simp only[cC,Db,tw,tz]at n)
 rcases n with rfl|rfl|rfl|rfl|rfl|rfl|rfl|rfl|rfl|rfl|rfl|rfl|rfl
 rotate_left 13
 rcases n with rfl|rfl
 all_goals
  try dsimp only
  first
  |go_enter func60,ntmps60
  |go_enter func61,ntmps61
  |go_enter func62,ntmps62
  |go_enter func63,ntmps63
  |go_enter func64,ntmps64
  |go_enter func69,ntmps69
  |go_enter func67,ntmps67
  |go_enter func70,ntmps70
  |go_enter func71,ntmps71
  |go_enter func72,ntmps72
  |go_enter func73,ntmps73
  |go_enter func74,ntmps74
  |go_enter func75,ntmps75
  |go_enter func112,ntmps112
  |go_enter func114,ntmps114
  |go_enter func144,ntmps144
  repeat
   go_wp2_with fail
   try (have⟨W,h1,HZ,d⟩:=HS.zero;rw[<-h1];clear HS;have HS:=d;clear d h1)
   try (have⟨W,b,h1,h2,d⟩:=HS.map;(first|rw[<-h1,<-h2]|rw[<-h1,<-HZ.out,<-h2]);clear HS;have HS:=d;clear d h1 h2)
   try (have⟨W,g,h1,h2,HL,d⟩:=HS.slice [lF] #[Y lF] rfl;rw[<-h1,<-h2];clear HS;have HS:=d;clear d h1 h2)
   try (have⟨W,g,h1,h2,HL,d⟩:=HS.slice [mW,mX] #[Y mW,Y mX] rfl;rw[<-h1,<-h2];clear HS;have HS:=d;clear d h1 h2)
   first
   |refine(HS.made (by first|with_reducible exact dE|with_reducible exact dD|with_reducible exact qE bm bB bD _ _|with_reducible exact py bm bB bD _ _|with_reducible exact yT bm bB bD _ _|with_reducible exact Ds bm bB bD _ _ _ _ D|with_reducible exact EX bm bB bD _ _ _ _ _ D|with_reducible exact Wq bm bB bD _ _ _ _ I.out|(with_reducible refine Nh bm bB bD _ _ _ ?_ (HS.at (N1 ..)));exact nofun|(with_reducible refine Wr HS H _ _ _ _ ?_ HL ?_)<;>decide) (by nofun)).mono ?_;rintro e W⟨f,a,l,rfl,d⟩
   |refine(HS.abY (by first|with_reducible exact asks bm _ _ (N1 ..)|with_reducible exact asks bm _ _ (abv _ (N1 ..))|with_reducible exact asks bm _ _ (abv _ (abv _ (N1 ..))))).mono ?_;rintro e W⟨f,a,l,rfl,D,d⟩
   |refine(HS.oL _ _ _ (by rfl) (by rfl) (by first|with_reducible exact dF|with_reducible exact cR|exact HS.at (.head _))).mono ?_;rintro e W⟨rfl,d⟩
   clear HS;have HS:=d;clear d
  first
  |have⟨q0,q1,q2,q3,q4,q5,q6,q7,q8,q9⟩:=lr (HS.g rfl)
   have u:=gx (HS.g rfl);go_wp2;refine ly rfl rfl rfl (jO (HS.g rfl) HS.k ?_ _ rfl);constructor
   all_goals first
   |rfl
   |exact HS.at (by repeat first|exact .head _|apply List.Mem.tail)
   |exact HS.qf (.head _)
   |exact HS.qf (.tail _ (.head _))
  |go_wp2
   go_ret;have h:=HS.Hp _ (.head _);exact⟨_,rfl,h.1,h.2.1,h.2.2,HS.k⟩
def St.all{z:Bool}{bm bB bD:Nat}{w cw:J}{rs:List (Ru×gP)}{ms:List (Nat×List (List O×Ru))}(s:St z bm bB bD w cw rs ms)(h:BD bB bD w)(d:BS bm bB w):=cQ bm bB bD cw (h.ir s.k) (d.ir s.k) s.t (nr s.lt s.k.size)
def jU:nc:={kE:=.iq 111,gV:=.gV 96 true,start:=some lh,stop:=some lz,jS:=.iq 113,kR:=.iq 115,iy:=.nothing}
def agJ(bm bB bD:Nat)(w:J)(hb:BD bB bD w)(HB:BS bm bB w)(ht:y9 w)(U:bm<w.heap.size):
  Calls prog 66 #[iD bB] w (kj bm bB bD jU w):=by
 have HS:=St.start bm bB bD w ht U;go_enter func66,ntmps66;go_wp2_with fail;have⟨W,h1,_,m⟩:=HS.zero;rw[<-h1];clear HS h1;refine(m.made (Wq bm bB bD _ _ true _ rfl) nofun).mono ?_;rintro e W1⟨f1,a1,l1,rfl,HS⟩;clear m;go_wp2_with fail;refine((HS.all hb HB).2.1 _ (.head _)).mono ?_;rintro e W2⟨b1,rfl,H,n,d,y⟩;have m:=HS.mapOf y H n d;clear HS H n d y;go_wp2_with fail;refine((m.all hb HB).2.1 _ (.tail _ (.head _))).mono ?_;rintro e W3⟨b2,rfl,I,q,h,D⟩;have HS:=m.mapOf D I q h;clear m I q h D;have⟨q0,q1,q2,q3,q4,q5,q6,q7,q8,q9⟩:=lr (HS.g rfl);have u:=gx (HS.g rfl);go_wp2;refine ly rfl rfl rfl (jO (HS.g rfl) HS.k ?_ _ rfl);exact⟨rfl,rfl,HS.at (.head _),rfl,rfl,HS.qf (.tail _ (.head _)),HS.qf (.head _),rfl,rfl,rfl⟩
def Jr{own:Bool}(h:lG bm bB bD (nH pf own) v0 v1 v2 v3 v4 v5 v6 v7 v8 v9 w):∃n d y q m D b5,v0=.func n d y/\v1=.nilFunc/\v2=.func q m D/\v3=.func (.func 88) #[] #[]/\v4=.func (.func 88) #[] #[]/\v5=.map (some b5)/\v6=.map none/\v7=.nilFunc/\v8=.nilFunc/\v9=.func (.func 238) #[iD bB] #[]:=by
 have⟨n,d,y,e0⟩:=h.blank.func (by simp[nH]);have⟨q,m,D,e2⟩:=h.gV.func (by simp[nH]);have⟨b5,L,e5,_⟩:=h.start;exact⟨n,d,y,q,m,D,b5,e0,h.kE,e2,h.iH,h.iw,e5,h.stop,h.jS,h.kR,h.iy⟩
def IV(bm bB bD:Nat)(w:J)(m:BD bB bD w)(q:BS bm bB w)(D:y9 w)(d:bm<w.heap.size):
  Calls prog 77 #[iD bB] w (kj bm bB bD (nH 90 false) w):=by
 have HS:=St.start bm bB bD w D d;have⟨zd,hBl⟩:=m;go_enter func77,ntmps77;go_wp2_with fail;have⟨W,h1,_,HT⟩:=HS.zero;rw[<-h1];clear HS h1;refine((HT.all m q).2.2 _ _ false rfl).mono ?_;rintro e H⟨v0,v1,v2,v3,v4,v5,v6,v7,v8,v9,rfl,h,n⟩;obtain⟨f0,I,l0,f2,U,l2,b5,rfl,rfl,rfl,rfl,rfl,rfl,rfl,rfl,rfl,rfl⟩:=Jr h;have HS:=HT.BR n;clear HT;have y:=V (jO (HS.g rfl) HS.k h _ rfl);have⟨q0,q1,q2,q3,q4,q5,q6,q7,q8,q9⟩:=lr (HS.g rfl);have u:=gx (HS.g rfl);clear h n;go_wp2;exact ly rfl rfl rfl y.out
def xG:nc:={nH 145 true with stop:=some [([fN],.iq 146)]}
def V1(bm bB bD:Nat)(w:J)(hb:BD bB bD w)(HZ:BS bm bB w)(ht:y9 w)(a8:bm<w.heap.size):
  Calls prog 76 #[iD bB] w (kj bm bB bD xG w):=by
 have aj:=@run_makeMap prog;obtain⟨W0,a6,_,S0⟩:=(St.start bm bB bD w ht a8).zero;have HB:=V hb;have a4:=V S0;have af:=V a6;clear S0 a6 ht a8 hb;go_enter func76,ntmps76;go_wp2_with fail;rw[<-af.out];refine((a4.out.all HB.out HZ).2.2 145 bB true rfl).mono ?_;rintro e m⟨v0,v1,v2,v3,v4,v5,v6,v7,v8,v9,rfl,hr,hk⟩;obtain⟨f0,a0,l0,f2,a2,l2,b5,rfl,rfl,rfl,rfl,rfl,rfl,rfl,rfl,rfl,rfl⟩:=Jr hr;have a5:=V (a4.out.BR hk);have a3:=V hr;clear hr hk;obtain⟨W2,a7,K2,g2,z2⟩:=uu m (gH #[.func f0 a0 l0,.nilFunc,.func f2 a2 l2,.func (.func 88) #[] #[],.func (.func 88) #[] #[],.map (some b5),.map none,.nilFunc,.nilFunc,.func (.func 238) #[iD bB] #[]] 168);have S2:=a5.out.BR K2;obtain⟨W3,b1,U,lV,S3⟩:=S2.map;have K3:Z [] W2 W3:=by rw[U];exact(Z.refl _ _).alloc _
 have aa:=V (show m.heap.size+1=b1 by rw[lV,z2]);have ab:=V (K3.at g2 (by simp));have n:=V (a3.out.ir (K2.trans K3));have ac:=V (show m.heap.size<b1 by rw[lV,z2];omega);have ad:=V (show b5<b1 by
  obtain⟨I,y⟩:=a3.out.start;have e:b5=I:=by obtain⟨L,e,_⟩:=y;simpa using e
  have:=y.lt;rw[lV,z2,e];omega)
 have D:=V S3;have ag:=V a7;have ah:=V U;clear a7 K2 g2 z2 S2 U lV S3 K3;go_wp2_with fail;rw[<-ag.out,<-ah.out,aa.out];refine(Zf bm bB bD b1 _ [fN] (.iq 146) [] _ _ (by kernel_rfl) (by kernel_rfl) D.out.t (D.out.Hp (b1,[]) (by simp)).1 (D.out.Hp (b1,[]) (by simp)).2.2 rfl).mono ?_;rintro e W4⟨rfl,a1,H,h⟩;have d:=V (D.out.on H h a1);have q:=H.at ab.out (by have:=ac.out;simp;omega);have ae:Hid (lG bm bB bD xG (.func f0 a0 l0) .nilFunc (.func f2 a2 l2) (.func (.func 88) #[] #[]) (.func (.func 88) #[] #[]) (.map (some b5)) (.map (some b1)) .nilFunc .nilFunc (.func (.func 238) #[iD bB] #[]) W4):=by
  refine V ⟨n.out.blank.fr h,n.out.kE.fr h,n.out.gV.fr h,n.out.iH.fr h,n.out.iw.fr h,?_,⟨b1,a1⟩,n.out.jS.fr h,n.out.kR.fr h,n.out.iy.fr h⟩;obtain⟨I,y⟩:=n.out.start;have e:b5=I:=by obtain⟨L,e,_⟩:=y;simpa using e
  subst e;exact⟨b5,y.fr h (H.block b5 y.lt (by have:=ad.out;simp;omega))⟩
 have a9:w.heap.size<m.heap.size:=ja (a5.out.g rfl);have HF:=V (jO (w1:=W4.setCell ⟨m.heap.size,6,none⟩ (.map (some b1))) ((Below.heap_setCell W4 ⟨m.heap.size,6,none⟩ _ w.heap.size (by show w.heap.size≠m.heap.size;omega)).trans (d.out.g rfl)) (d.out.k.setCell (p:=⟨m.heap.size,6,none⟩) (.inr (by show w.heap.size<=m.heap.size;omega)) _) (ae.out.MF ((Z.refl [m.heap.size] W4).setCell (p:=⟨m.heap.size,6,none⟩) (.inl (by simp)) _) q) _ rfl);have ai:=V a9;have ak:w.heap.size≠m.heap.size:=by omega
 clear a1 H h a9;have c0:W4.cell? ⟨m.heap.size,0,none⟩=some (.func f0 a0 l0):=(fP q 0).trans rfl;have c1:W4.cell? ⟨m.heap.size,1,none⟩=some .nilFunc:=(fP q 1).trans rfl;have c2:W4.cell? ⟨m.heap.size,2,none⟩=some (.func f2 a2 l2):=(fP q 2).trans rfl;have c3:W4.cell? ⟨m.heap.size,3,none⟩=some (.func (.func 88) #[] #[]):=(fP q 3).trans rfl;have c4:W4.cell? ⟨m.heap.size,4,none⟩=some (.func (.func 88) #[] #[]):=(fP q 4).trans rfl;have c5:W4.cell? ⟨m.heap.size,5,none⟩=some (.map (some b5)):=(fP q 5).trans rfl;have c6:W4.cell? ⟨m.heap.size,6,none⟩=some (.map none):=(fP q 6).trans rfl;have c7:W4.cell? ⟨m.heap.size,7,none⟩=some .nilFunc:=(fP q 7).trans rfl;have c8:W4.cell? ⟨m.heap.size,8,none⟩=some .nilFunc:=(fP q 8).trans rfl;have c9:W4.cell? ⟨m.heap.size,9,none⟩=some (.func (.func 238) #[iD bB] #[]):=(fP q 9).trans rfl;have d6:=gx q 6;clear q;obtain⟨q0,q1,q2,q3,q4,q5,q6,q7,q8,q9⟩:=lr (d.out.g rfl);have u0:=gx (d.out.g rfl) 0;have u1:=gx (d.out.g rfl) 1;have u2:=gx (d.out.g rfl) 2;have u3:=gx (d.out.g rfl) 3;have u4:=gx (d.out.g rfl) 4;have u5:=gx (d.out.g rfl) 5;have u6:=gx (d.out.g rfl) 6;have u7:=gx (d.out.g rfl) 7;have u8:=gx (d.out.g rfl) 8;have u9:=gx (d.out.g rfl) 9;go_wp2;exact ly results76 rfl rfl HF.out
def nO(z:jL)(d f a:Int)(v:gP)(bD:Nat):jL:=((((z.setIfInBounds 0 (G d)).setIfInBounds 1 (G f)).setIfInBounds 2 (G a)).setIfInBounds 3 v).setIfInBounds 187 (iD bD)
def tN:Tryz.zeroCells176.size=199:=by rfl
def DQ(z:jL)(d f a:Int)(v:gP)(bD:Nat):(nO z d f a v bD).size=z.size:=by
 simp[nO]
theorem yQ(z:jL)(d f a:Int)(v:gP)(bD i:Nat)(h:4<=i)(m:i≠187):(nO z d f a v bD)[i]?=z[i]?:=by
 simp only[nO,XD];grind
def yV:List nc:=[{blank:=.nothing,gV:=.gV 90 false,iH:=.iq 91,iy:=.iq 92},lO,lQ,jV,mP,rp,jU,AR,lj,xH,qi,oS,zR,Du,yU,qI,xG,nH 90 false]
theorem oI.one(h:oI bm bB bD r v w):v.oneCell'=true:=by
 by_cases d:r=.nil;subst d;have:v=.nilFunc:=h;subst this;rfl;obtain⟨f,a,l,rfl⟩:=h.func d;rfl
theorem sU.one{R:Option (List (List O×Ru))}(h:sU bm bB bD R v w):v.oneCell'=true:=by
 cases R with
 |none=>have:v=.map none:=h;subst this;rfl
 |some R=>obtain⟨b,L,rfl,_⟩:=h;rfl
theorem lG.one(h:lG bm bB bD sp v0 v1 v2 v3 v4 v5 v6 v7 v8 v9 w):∀v∈[v0,v1,v2,v3,v4,v5,v6,v7,v8,v9],v.oneCell'=true:=by
 intro v d;simp at d;rcases d with rfl|rfl|rfl|rfl|rfl|rfl|rfl|rfl|rfl|rfl;exact h.blank.one;exact h.kE.one;exact h.gV.one;exact h.iH.one;exact h.iw.one;exact h.start.one
 .exact h.stop.one
 exact h.jS.one;exact h.kR.one;exact h.iy.one
theorem lG.afQ(h:lG bm bB bD sp v0 v1 v2 v3 v4 v5 v6 v7 v8 v9 w)(d:Z [s] w w')(hs:w.heap[s]?=some (gH c 176)):lG bm bB bD sp v0 v1 v2 v3 v4 v5 v6 v7 v8 v9 w':=
 have f:x9 bm w w':=⟨_,d,λk m _=>by
  grind[Lq]⟩
 ⟨h.blank.fr f,h.kE.fr f,h.gV.fr f,h.iH.fr f,h.iw.fr f,h.start.MF d hs f,h.stop.MF d hs f,h.jS.fr f,h.kR.fr f,h.iy.fr f⟩
def Dd(bm bB bD:Nat)(cs:List gP)(W:J):Prop:=cs.length=180/\∀m sp,yV[m]?=some sp->∃v0 v1 v2 v3 v4 v5 v6 v7 v8 v9,(cs.drop (10*m)).take 10=[v0,v1,v2,v3,v4,v5,v6,v7,v8,v9]/\lG bm bB bD sp v0 v1 v2 v3 v4 v5 v6 v7 v8 v9 W
def Dd.afQ(h:Dd bm bB bD cs w)(d:Z [s] w w')(hs:w.heap[s]?=some (gH c 176)):Dd bm bB bD cs w':=by
 refine⟨h.1,λm sp n=>?_⟩;have⟨v0,v1,v2,v3,v4,v5,v6,v7,v8,v9,e,hr⟩:=h.2 m sp n;exact⟨v0,v1,v2,v3,v4,v5,v6,v7,v8,v9,e,hr.afQ d hs⟩
section
variable {P:Program}{ops:Array Oper}{rest:List Oper}{o:Oper}{a:Act}{w:J}{Q:Exit->Act->J->Prop}
def CQ(q:o.guard=none)(d:Option Tmp)(n:o.dst=d)(v:gP)(y:(execOp a.eval o).run P w=.ok (.value v) w)(h:wpList P ops Q rest (a.put d v) w):wpList P ops Q (o::rest) a w:=by
 subst n;refine wpList_plain q λK m=>?_;unfold Oper.wp;rw[y];exact m _ _ h
end
structure ak8(bm bB bD:Nat)(d f a:Int)(av:gP)(w W:J):Prop where
 k:Z [] w W
 new:w.heap.size<=bB
 il:∃c6 cs v1 v2 v3,W.heap[bB]?=some (gH (jz c6 4 cs) 176)/\c6=((((nO Tryz.zeroCells176 d f a av bD).setIfInBounds 184 v1).setIfInBounds 185 v2).setIfInBounds 186 v3)/\Dd bm bB bD cs W/\Ask bm v1 kT W/\Ask bm v2 vj W/\Ask bm v3 iI W
 wA:W.heap[bD]?=some (gH #[Y kB,jD,.pointer none,jD] 136)
 ne:bD≠bB
 aoB:w.heap.size<=bD
structure aaK(bm bB bD:Nat)(w W:J)(n:Nat)(cs:List gP):Prop where
 k:Z [] w W
 len:cs.length=10*n
 r:∀m sp,m<n->yV[m]?=some sp->∃v0 v1 v2 v3 v4 v5 v6 v7 v8 v9,(cs.drop (10*m)).take 10=[v0,v1,v2,v3,v4,v5,v6,v7,v8,v9]/\lG bm bB bD sp v0 v1 v2 v3 v4 v5 v6 v7 v8 v9 W
 one:∀v∈cs,v.oneCell'=true
theorem aaK.nm{n:Nat}(s:aaK bm bB bD w W n cs):∃c,c=cs/\aaK bm bB bD w W n c:=⟨_,rfl,s⟩
def aaK.next{n:Nat}{q:jL}(s:aaK bm bB bD w W n cs)(hs:yV[n]?=some sp)(C:Calls prog f q W (kj bm bB bD sp W)):Calls prog f q W λe W'=>∃v0 v1 v2 v3 v4 v5 v6 v7 v8 v9,e=iA (.agg #[v0,v1,v2,v3,v4,v5,v6,v7,v8,v9])/\aaK bm bB bD w W' (n+1) (cs++[v0,v1,v2,v3,v4,v5,v6,v7,v8,v9]):=by
 refine C.mono ?_;rintro e W'⟨v0,v1,v2,v3,v4,v5,v6,v7,v8,v9,rfl,D,y⟩;refine⟨v0,v1,v2,v3,v4,v5,v6,v7,v8,v9,rfl,s.k.trans y,by simp[s.len];omega,λm h hm d=>?_,λv hv=>(List.mem_append.1 hv).elim (s.one v) (D.one v)⟩;have U:=s.len;by_cases e:m=n;subst e;rw[hs]at d;cases d;exact⟨_,_,_,_,_,_,_,_,_,_,by rw[<-U,List.drop_left];rfl,D⟩;obtain⟨u0,u1,u2,u3,u4,u5,u6,u7,u8,u9,H,I⟩:=s.r m h (by omega) d;exact⟨_,_,_,_,_,_,_,_,_,_,by rw[List.drop_append_of_le_length (by omega),abt (by rw[List.length_drop];omega)];exact H,I.ir y⟩
def adP(d:J)(bm:Nat)(c:jL)(m:J)(h:m=((d.alloc (gH #[.map (some bm)] 88)).alloc (gH #[Y kB,jD,.pointer none,jD] 136)).alloc (gH c 176)):
  m.heap[d.heap.size]?=some (gH #[.map (some bm)] 88)/\m.heap[d.heap.size+1]?=some (gH #[Y kB,jD,.pointer none,jD] 136)/\m.heap[d.heap.size+1+1]?=some (gH c 176)/\Z [] d m:=by
 have⟨h1,h2,h3⟩:=pF d (gH #[.map (some bm)] 88) (gH #[Y kB,jD,.pointer none,jD] 136) (gH c 176);subst h;exact⟨h1,h2,h3,(((Z.refl _ _).alloc _).alloc _).alloc _⟩
theorem adx{d:J}(h:J)(m:h=((d.setCell ⟨bB,184,none⟩ v1).setCell ⟨bB,185,none⟩ v2).setCell ⟨bB,186,none⟩ v3)(n:d.heap[bB]?=some (gH c 176)):h.heap[bB]?=some (gH (((c.setIfInBounds 184 v1).setIfInBounds 185 v2).setIfInBounds 186 v3) 176)/\Z [bB] d h/\x9 bm d h:=by
 have q:=gh n 184 v1;have y:=gh q 185 v2;have H:=gh y 186 v3;have k:Z [bB] d h:=by
  rw[m];exact(((Z.refl [bB] d).setCell (p:=⟨bB,184,none⟩) (.inl (by simp)) v1).setCell (p:=⟨bB,185,none⟩) (.inl (by simp)) v2).setCell (p:=⟨bB,186,none⟩) (.inl (by simp)) v3
 refine⟨by grind,k,⟨_,k,λx D _=>?_⟩⟩;have e:=List.mem_singleton.1 D;subst e;exact .inl ⟨_,_,_,n,by decide⟩
def ama(d f a:Int)(af:Fn)(aa al:jL)(w:J)(ht:y9 w):
  Calls prog 45 #[.agg #[G d,G f,G a],.func af aa al] w λe W=>∃bm bB bD,e=iA (iD bB)/\ak8 bm bB bD d f a (.func af aa al) w W:=by
 obtain⟨w0,bd,K0,g0,z0⟩:=uu w (gH #[G d,G f,G a] 65);have HT:=V ht;have aQ:=V bd;have ah:=V K0;have aE:=V g0;have bp:=V z0;clear ht bd K0 g0 z0;go_enter func45,ntmps45;go_wp2_with fail;rw[<-aQ.out];refine(DR _ (HT.out.fr (bm:=0) (.ib ah.out)).1).mono ?_;rintro e W1⟨bm,rfl,bc,D,lV⟩;have g1:=D.at aE.out (by simp);have c0:W1.cell? ⟨w.heap.size,0,none⟩=some (G d):=(fP g1 0).trans rfl;have c1:W1.cell? ⟨w.heap.size,1,none⟩=some (G f):=(fP g1 1).trans rfl;have c2:W1.cell? ⟨w.heap.size,2,none⟩=some (G a):=(fP g1 2).trans rfl;have bv:=ja g1;have aM:=V bc;have ai:=V (ah.out.trans D);have bo:=V lV;clear bc D lV g1;go_wp2_with fail;clear c0 c1 c2 bv;obtain⟨W2,an⟩:∃W,W=((W1.alloc (gH #[.map (some bm)] 88)).alloc (gH #[Y kB,jD,.pointer none,jD] 136)).alloc (gH (nO Tryz.zeroCells176 d f a (.func af aa al) (W1.heap.size+1)) 176):=⟨_,rfl⟩;obtain⟨gC,gD,gB,k2⟩:=adP W1 bm _ W2 an;change Code.wp _ _ _ _ (((W1.alloc (gH #[.map (some bm)] 88)).alloc (gH #[Y kB,jD,.pointer none,jD] 136)).alloc (gH (nO Tryz.zeroCells176 d f a (.func af aa al) (W1.heap.size+1)) 176));rw[<-an];clear an;obtain⟨bB,aT⟩:∃b,b=W1.heap.size+1+1:=⟨_,rfl⟩;obtain⟨bD,aX⟩:∃b,b=W1.heap.size+1:=⟨_,rfl⟩;obtain⟨bC,aW⟩:∃b,b=W1.heap.size:=⟨_,rfl⟩;rw[<-aT]at gB|-;rw[<-aX]at gB gD|-;rw[<-aW]at gC|-;have H:bC≠bB:=by omega
 have ae:=V (show bD≠bB by omega);have aj:=V (show w.heap.size<=bB/\w.heap.size<=bD by have:=ai.out.size;omega);have a4:=V gC;have aI:=V gD;have aH:=V gB;have ak:=V (aM.out.kept k2 (by simp));have aK:=V (ai.out.trans k2);have aB:=V (show bm<W2.heap.size by
  obtain⟨es,ck,ha,_⟩:=ak.out;exact(Array.getElem?_eq_some_iff.1 ha).1)
 clear gC gD gB k2 aT aX aW aM;have CA:Hid (∀(c:Nat)(W:J),c<16->Z [] W2 W->Calls prog 32 #[.agg #[.map (some bm)],G c] W λe w'=>(∃v,e=iA v/\Ask bm v (aY sW c) w')/\Z [] W w'):=V (λc W hc hk=>aaf bm c sW W (ak.out.kept hk (by simp)) hc aap);have bq:W2.cell? ⟨bC,0,none⟩=some (.map (some bm)):=(fP a4.out 0).trans rfl
 go_region_held3 (λw'=>w'.cell? ⟨bC,0,none⟩=some (.map (some bm))) ((first|assumption|go_keep|exact(lR H).trans (by assumption)|exact(lR H).trans ((lR H).trans (by assumption))|exact(lR H).trans ((lR H).trans ((lR H).trans (by assumption))))) ((first|(go_at_call 32;refine(CA.out 2 _ (by decide) (Z.refl _ _).drew).mono ?_;rintro e W3⟨⟨v1,rfl,aq⟩,D⟩;obtain⟨bf,be,bg,bw⟩:=aq.func;subst bw;have ay:=V aq;have U:Hid (Z [] W2 W3):=V (Z.trans (Z.refl _ _).drew D);have br:W3.cell? ⟨bC,0,none⟩=some (.map (some bm)):=(fP (U.out.at a4.out (by simp)) 0).trans rfl;have aD:=V (x9.ib (bm:=bm) D);clear aq D)|(go_at_call 32;refine(CA.out 4 _ (by decide) U.out).mono ?_;rintro e W4⟨⟨v2,rfl,ar⟩,aw⟩;obtain⟨bF,bA,bI,bx⟩:=ar.func;subst bx;have az:=V ar;have a0:Hid (Z [] W2 W4):=V (Z.trans U.out aw);have bt:W4.cell? ⟨bC,0,none⟩=some (.map (some bm)):=(fP (a0.out.at a4.out (by simp)) 0).trans rfl;have ab:=V (x9.ib (bm:=bm) aw);clear ar aw)|(go_at_call 32;refine(CA.out 8 _ (by decide) a0.out).mono ?_;rintro e W5⟨⟨v3,rfl,au⟩,ax⟩;obtain⟨bH,bE,bK,bz⟩:=au.func;subst bz;have aA:=V au;have n:Hid (Z [] W2 W5):=V (Z.trans a0.out ax);have bu:W5.cell? ⟨bC,0,none⟩=some (.map (some bm)):=(fP (n.out.at a4.out (by simp)) 0).trans rfl;have a3:=V (x9.ib (bm:=bm) ax);clear au ax;have q:=V (n.out.at aH.out (by simp));have bh:W5.cell? ⟨bB,184,none⟩=some .nilFunc:=(fP q.out 184).trans ((yQ _ d f a _ bD 184 (by decide) (by decide)).trans (by kernel_rfl));have bk:=gx q.out 184;have bi:W5.cell? ⟨bB,185,none⟩=some .nilFunc:=(fP q.out 185).trans ((yQ _ d f a _ bD 185 (by decide) (by decide)).trans (by kernel_rfl));have bl:=gx q.out 185;have bj:W5.cell? ⟨bB,186,none⟩=some .nilFunc:=(fP q.out 186).trans ((yQ _ d f a _ bD 186 (by decide) (by decide)).trans (by kernel_rfl));have bn:=gx q.out 186)))
 obtain⟨W6,ap⟩:∃W,W=((W5.setCell ⟨bB,184,none⟩ (.func bf be bg)).setCell ⟨bB,185,none⟩ (.func bF bA bI)).setCell ⟨bB,186,none⟩ (.func bH bE bK):=⟨_,rfl⟩;rw[<-ap];obtain⟨g6,k6,f6⟩:=adx (bm:=bm) W6 ap q.out;have K6:Z [] w W6:=(aK.out.trans n.out).next k6 (λx hx=> .inr (by rw[List.mem_singleton.1 hx];exact aj.out.1))
 have A1:=ay.out.fr (ab.out.trans (a3.out.trans f6));have A2:=az.out.fr (a3.out.trans f6);have A3:=aA.out.fr f6;have bb:W6.heap[bD]?=some (gH #[Y kB,jD,.pointer none,jD] 136):=k6.at (n.out.at aI.out (by simp)) (by have:=ae.out;simpa using this);have ad:bm<W6.heap.size:=nr (nr aB.out n.out.size) k6.size;have y:Hid (∀W,Z [] W6 W->BD bB bD W/\BS bm bB W/\y9 W/\bm<W.heap.size):=by
  have b0:BD bB bD W6:=⟨(fP g6 187).trans (by
   simp only[nO,XD,sS,tN];rfl),ja g6⟩
  have b1:BS bm bB W6:=⟨ja g6,.func bf be bg,(fP g6 184).trans (by
   simp only[nO,XD,sS,tN];rfl),A1⟩
  exact V (λW hk=>⟨b0.ir hk,b1.ir hk,HT.out.fr (.ib (bm:=bm) (K6.trans hk)),nr ad hk.size⟩)
 have a8:=V (And.intro A1 (And.intro A2 A3));have aF:=V g6;have aL:=V K6;have aC:=V bb;have a9:=V aj.out;have ag:=V ae.out;have bL:Hid (Z [] W6 W6):=V (Z.refl _ _);clear ap g6 k6 f6 K6 A1 A2 A3 bb ad bq br bt bu bh bi bj bk bl bn q U a0 n aD ab a3 ay az aA a4 aI aH ak aK aB bo ai aQ ah aE bp HT CA H ae aj;have HS:aaK bm bB bD W6 W6 0 []:=⟨Z.refl _ _,rfl,nofun,nofun⟩
 iterate 18
  go_wp2_with fail;refine(HS.next rfl (by first|with_reducible exact(tt bm bB bD _).1|with_reducible exact(tt bm bB bD _).2|with_reducible exact agJ bm bB bD _ (y.out _ HS.k).1 (y.out _ HS.k).2.1 (y.out _ HS.k).2.2.1 (y.out _ HS.k).2.2.2|with_reducible exact V1 bm bB bD _ (y.out _ HS.k).1 (y.out _ HS.k).2.1 (y.out _ HS.k).2.2.1 (y.out _ HS.k).2.2.2|with_reducible exact IV bm bB bD _ (y.out _ HS.k).1 (y.out _ HS.k).2.1 (y.out _ HS.k).2.2.1 (y.out _ HS.k).2.2.2|exact(cQ bm bB bD _ (y.out _ HS.k).1 (y.out _ HS.k).2.1 (y.out _ HS.k).2.2.1 (y.out _ HS.k).2.2.2).1 (_,_) (by repeat first|exact .head _|apply List.Mem.tail))).mono ?_;rintro e W⟨v0,v1,v2,v3,v4,v5,v6,v7,v8,v9,rfl,HT⟩;clear HS;have HS:=HT;clear HT
 obtain⟨cs,ba,HT⟩:=HS.nm;have HC:=V ba;clear HS;have HS:=HT;have HL:=HS.len;have am:Hid (Dd bm bB bD cs W):=V ⟨HL,λm sp hm=>HS.r m sp (List.getElem?_eq_some_iff.1 hm).1 hm⟩;have ac:Hid (cs.toArray.all (·.oneCell')=true):=V (all_oneCell_toArray HS.one);have I:=V HS.k;have h:=V (I.out.at aF.out (by simp));have aP:Hid (W.there bB 4 cs.toArray.size):=by
  refine V (λj hj=>⟨?_,gx h.out _⟩);have:cs.toArray.size=180:=HL;rw[fP h.out,jC (by simp only[sS,DQ,tN];omega)];rfl
 clear HS HL HT;rename_i KK a5;refine a5 _ _ ?_;clear a5;refine wpList_buildTo rfl 169 _ rfl _ rfl cs.toArray (by rw[HC.out];kernel_rfl) ?_;clear HC ba;refine CQ rfl _ rfl (iD bB) (by kernel_rfl) ?_;refine CQ rfl _ rfl (j5 bB 4) (by kernel_rfl) ?_;refine wpList_store_mid rfl 169 _ _ rfl bB 4 cs.toArray rfl rfl aP.out (by rw[show cs.toArray.size=180 from am.out.1];kernel_rfl) ac.out ?_;obtain⟨a2,a1⟩:∃X,X=W.setCells bB 4 cs.toArray.toList:=⟨_,rfl⟩;rw[<-a1];have a7:Z [bB] W a2:=by rw[a1];exact Z.setCells (.inl (by simp)) _ _ (Z.refl _ _)
 have aS:x9 bm W a2:=⟨_,a7,λx hx _=>by
  have e:=List.mem_singleton.1 hx;subst e;exact .inl ⟨_,_,_,h.out,by decide⟩⟩
 have aR:Z [] w a2:=(aL.out.trans I.out).next a7 (λx hx=> .inr (by rw[List.mem_singleton.1 hx];exact a9.out.1))
 have a6:=la cs W bB _ _ _ 4 h.out;rw[show W.setCells bB 4 cs=a2 from a1.symm]at a6;have FN:Hid (ak8 bm bB bD d f a (.func af aa al) w a2):=by
  have f6:x9 bm W6 a2:=(x9.ib I.out).trans aS;exact V ⟨aR,a9.out.1,⟨_,cs,_,_,_,a6,rfl,am.out.afQ a7 h.out,a8.out.1.fr f6,a8.out.2.1.fr f6,a8.out.2.2.fr f6⟩,a7.at (I.out.at aC.out (by simp)) (by have:=ag.out;simpa using this),ag.out,a9.out.2⟩
 clear a7 aS aR a6 a1 am ac h aP a8 aF aL aC a9 ag y;generalize Value.agg cs.toArray=bM
 rename (∀(a:Act)(w:J),Code.wp _ _ _ a w->_)=>a5
 refine a5 _ _ ?_;clear a5;simp only[Act.put,List.setIfInBounds_toArray,List.set_cons_zero,List.set_cons_succ];go_wp2;go_ret;exact⟨bm,bB,bD,rfl,FN.out⟩
end
end Go.Proofs.YtdbbknopdbpfaaaGreatDoor
