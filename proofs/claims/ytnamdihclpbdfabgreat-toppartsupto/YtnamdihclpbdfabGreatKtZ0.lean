import Derived.ArgAppend
import Derived.ChangeKeysEq
import Derived.Deep.AppendLies
import Derived.Laws.AppendOwn
import Derived.Laws.Cells
import Derived.Laws.Entries
import Derived.Laws.IdiomCopy
import Derived.Laws.Rows
import Derived.OrdersHeld
import Derived.ProofKit
import Derived.Test.YtnamdihclpbdfabGreatRows
import Derived.WalkKit
abbrev Go.Value.i (n:Int):Go.Value:=.int .i64 n
abbrev Go.Value.n0:Go.Value:=.slice none 0 0
abbrev Go.Value.o(g n c:Nat):Go.Value:=.slice (some ⟨g,0,none⟩) n c
abbrev Go.Value.po(g:Nat):Go.Value:=.pointer (some ⟨g,0,none⟩)
namespace Go.Proofs.YtnamdihclpbdfabGreat
set_option linter.all false
open Go.Proofs.Tryz
theorem od{p:Prop}(h:p:=by omega):p:=h
theorem oe{p:Prop}(h:p:=by simp):p:=h
theorem ot{p:Prop}(h:p:=by simp;omega):p:=h
theorem ov{p:Prop}(h:p:=by decide):p:=h
theorem oA{p:Prop}(h:p:=by kernel_rfl):p:=h
theorem oB{p:Prop}(h:p:=by simp_all [okTs,okT,bD]):p:=h
theorem oE{p:Prop}(h:p:=by simp only[Ty.size,tysizes] at *;omega):p:=h
theorem oR{p:Prop}(h:p:=by unfold Func.isWrapper;first|(rw[if_pos (by decide +kernel)];kernel_rfl)|(rw[if_neg (by decide +kernel)];exact⟨rfl,rfl⟩)):p:=h
theorem oT{p:Prop}(h:p:=by simp[aW,Va.size,vsizes,tysizes,sizes]):p:=h
theorem oX{p:Prop}(h:p:=by simp[mkV,noneV,Va.size,vsizes,tysizes,sizes]):p:=h
theorem oY{p:Prop}(h:p:=by rw[xj];simp;omega):p:=h
theorem Of{p:Prop}(h:p:=by simp[Value.ownBlock]):p:=h
theorem Ok{p:Prop}(h:p:=by simp[eY];omega):p:=h
theorem On{p:Prop}(h:p:=by rw[qY];simp;omega):p:=h
theorem OF{p:Prop}(h:p:=by unfold bD;decide):p:=h
theorem OK{p:Prop}(h:p:=by assumption):p:=h
theorem ON{p:Prop}(h:p:=by dsimp only;omega):p:=h
theorem OR{p:Prop}(h:p:=by rw[Hf];simp;omega):p:=h
theorem OS{p:Prop}(h:p:=by simp only[jj];omega):p:=h
theorem Zs{p:Prop}(h:p:=by unfold Lf.fD;rw[if_neg (by decide),if_neg (by omega),if_neg (by simp[Lf.qM];rfl),if_neg (by omega),if_neg (by decide)]):p:=h
theorem ZD{p:Prop}(h:p:=by rw[qa2];simp;omega):p:=h
theorem ZS{p:Prop}(h:p:=by unfold Addr.add;split<;>simp_all):p:=h
theorem Xs{p:Prop}(h:p:=by decide +kernel):p:=h
theorem XS{p:Prop}(h:p:=by unfold maxLen;omega):p:=h
theorem Kd{p:Prop}(h:p:=by rw[xj];omega):p:=h
theorem Kf{p:Prop}(h:p:=by simp only[Ah,zL,Gb,kE,qv,jt];omega):p:=h
theorem Ks{p:Prop}(h:p:=by unfold bT;rw[if_neg (by omega),if_neg (by omega)]):p:=h
theorem Kx{p:Prop}(h:p:=by simp[aW,aZ,Va.size,vsizes,tysizes,sizes]):p:=h
theorem KK{p:Prop}(h:p:=by simp[vasD_map]):p:=h
theorem Ys{p:Prop}(h:p:=by split<;>simp[mkV,aV,noneV,aW,Va.size,vsizes,tysizes,sizes]):p:=h
theorem Up{p:Prop}(h:p:=by rw[jB];simp;omega):p:=h
theorem UP{p:Prop}(h:p:=by simp[results,Tryz.results150,go_sem]):p:=h
theorem US{p:Prop}(h:p:=by rw[qY];omega):p:=h
theorem vc{p:Prop}(h:p:=by simp only[ju,jj,qa0];omega):p:=h
theorem vf{p:Prop}(h:p:=by rw[qa2];omega):p:=h
theorem vh{p:Prop}(h:p:=by simp[dI,sFq,bB,Ty.t]):p:=h
theorem vj{p:Prop}(h:p:=by simp only[qa0];unfold maxLen;omega):p:=h
theorem vl{p:Prop}(h:p:=by rw[qc2];omega):p:=h
theorem vm{p:Prop}(h:p:=by unfold fC;omega):p:=h
theorem vp{p:Prop}(h:p:=by simp[Act.eval,Act.put]):p:=h
theorem vq{p:Prop}(h:p:=by show 0<=m.paid;omega):p:=h
theorem vu{p:Prop}(h:p:=by unfold bD;omega):p:=h
theorem vx{p:Prop}(h:p:=by simp[X.keys]):p:=h
theorem vy{p:Prop}(h:p:=by split<;>omega):p:=h
theorem vA{p:Prop}(h:p:=by simp only;omega):p:=h
theorem Vc{p:Prop}(h:p:=by simp[Ty.t]):p:=h
theorem oa{c:Prop}[Decidable c]{α:Type _}{a b:α}(h:¬c:=by omega):ite c a b=b:=if_neg h
theorem oc{c:Prop}[Decidable c]{α:Type _}{a b:α}(h:c:=by omega):ite c a b=a:=if_pos h
abbrev cq:=@Go.World.grownBy
abbrev bj:=Option Addr
abbrev bo:=List Value
abbrev bp:=ByteArray
abbrev br:=Nat->Prop
abbrev bt:=Nat->Value
abbrev bw:=List UInt8
abbrev cg:=World
abbrev cm:=Value
open Go.ChangeShapes Go.WideShapes Go.ChangeAt Go.RowKit
def JT{p0 d p2:Prop}(a:p0)(b:d)(c:p2):Hid p0/\Hid d/\Hid p2:=⟨a,b,c⟩
def we{p0 e p2 f:Prop}(a:p0)(b:e)(c:p2)(d:f):Hid p0/\Hid e/\Hid p2/\Hid f:=⟨a,b,c,d⟩
def wb{p0 f p2 g h:Prop}(a:p0)(b:f)(c:p2)(d:g)(e:h):Hid p0/\Hid f/\Hid p2/\Hid g/\Hid h:=⟨a,b,c,d,e⟩
def wg{p0 g p2 h i j:Prop}(a:p0)(b:g)(c:p2)(d:h)(e:i)(f:j):Hid p0/\Hid g/\Hid p2/\Hid h/\Hid i/\Hid j:=⟨a,b,c,d,e,f⟩
def wk{p0 h p2 i j k l:Prop}(a:p0)(b:h)(c:p2)(d:i)(e:j)(f:k)(g:l):Hid p0/\Hid h/\Hid p2/\Hid i/\Hid j/\Hid k/\Hid l:=⟨a,b,c,d,e,f,g⟩
def wj{p0 i p2 j k l m n:Prop}(a:p0)(b:i)(c:p2)(d:j)(e:k)(f:l)(g:m)(h:n):Hid p0/\Hid i/\Hid p2/\Hid j/\Hid k/\Hid l/\Hid m/\Hid n:=⟨a,b,c,d,e,f,g,h⟩
def wq{p0 j p2 k l m n o p8:Prop}(a:p0)(b:j)(c:p2)(d:k)(e:l)(f:m)(g:n)(h:o)(i:p8):Hid p0/\Hid j/\Hid p2/\Hid k/\Hid l/\Hid m/\Hid n/\Hid o/\Hid p8:=⟨a,b,c,d,e,f,g,h,i⟩
abbrev qq:=@Option.some.injEq
abbrev qt:=@List.getElem?_eq_getElem
abbrev qu:=@List.mem_singleton
abbrev qv:=@Bool.and_eq_true
abbrev qS:=@List.getElem?_eq_some_iff
abbrev qT:=@Option.map_eq_some_iff
abbrev jj:=@List.length_cons
abbrev jn:=@Nat.le_refl
abbrev js:=@Prod.mk.injEq
abbrev jt:=@decide_eq_true_eq
abbrev ju:=@List.length_append
abbrev jx:=@List.eq_nil_of_length_eq_zero
abbrev jz:=@List.mem_of_getElem?
abbrev ka:=@List.mem_append
abbrev kd:=@Go.World.cell?_of_block
abbrev ke:=@List.mem_cons
abbrev kh:=@Nat.lt_of_lt_of_le
abbrev ki:=@List.all_eq_true
abbrev kj:=@Array.getElem?_eq_some_iff
abbrev kl:=@List.mem_map
abbrev km:=@List.getElem?_cons_zero
abbrev kB:=@List.drop_eq_getElem_cons
abbrev kO:=@List.getElem?_append_left
abbrev zd:=@List.setIfInBounds_toArray
abbrev zj:=@decide_eq_true
abbrev zE:=@List.getElem?_append_right
abbrev xb:=@decide_eq_false
abbrev xf:=@List.all_cons
abbrev xj:=@List.length_map
abbrev xo:=@Nat.le_trans
abbrev xF:=@Go.heap_alloc_new
abbrev xT:=@List.set_cons_succ
abbrev yb:=@Nat.zero_le
abbrev ye:=@Go.Value.slice.injEq
abbrev yv:=@List.getElem_mem
abbrev yy:=@List.set_cons_zero
abbrev yW:=@List.getElem?_cons_succ
abbrev ub:=@List.take_of_length_le
abbrev ue:=@Array.getD_eq_getD_getElem?
abbrev ux:=@List.map_append
abbrev qa0:=@List.length_nil
abbrev qa1:=@Option.isNone_iff_eq_none
abbrev qa2:=@Go.IntKind.wrap_i64
abbrev qa3:=@Bool.true_and
abbrev qa4:=@Classical.byContradiction
abbrev qa5:=@List.getElem?_map
abbrev qa6:=@List.append_assoc
abbrev qa7:=@Go.run_underlying
abbrev qb0:=@List.append_nil
abbrev qb1:=@List.mem_flatMap
abbrev qb2:=@List.map_cons
abbrev qb3:=@List.length_reverse
abbrev qb4:=@Nat.zero_add
abbrev qb5:=@Go.World.ownsRow.lt
abbrev qb6:=@List.cons.injEq
abbrev qb7:=@List.drop_eq_nil_of_le
abbrev qc0:=@Go.World.block_lt_of_cell?
abbrev qc1:=@Go.Sem.run_bind
abbrev qc2:=@List.length_take
abbrev qc3:=@List.getElem_of_mem
abbrev qc4:=@of_decide_eq_true
abbrev qc5:=@Array.getElem?_eq_getElem
abbrev qc6:=@Bool.false_eq_true
abbrev qc7:=@List.reverse_cons
abbrev qd0:=@List.flatMap_cons
abbrev qd1:=@List.take_append_drop
abbrev qd2:=@Int.le_refl
abbrev qd3:=@Go.World.ownsRow.kept
abbrev qd4:=@Go.World.ownsRow.cells
abbrev qd5:=@List.nodup_append
abbrev qd6:=@decide_eq_false_iff_not
abbrev qd7:=@List.not_mem_nil
abbrev qe0:=@List.cons_append
abbrev qe1:=@List.length_singleton
abbrev qe2:=@List.cons.inj
abbrev qe3:=@List.getElem?_take
abbrev qe4:=@List.nil_append
abbrev qe5:=@List.mem_of_mem_take
abbrev qe6:=@Bool.or_eq_true
abbrev qe7:=@List.eq_of_mem_replicate
abbrev qf0:=@Option.bind_eq_some_iff
abbrev qf1:=@Option.isSome_iff_exists
abbrev qf2:=@List.getElem?_set_ne
abbrev qf3:=@Bool.false_and
abbrev qf4:=@Option.map_some
abbrev qf5:=@List.any_eq_true
abbrev qf6:=@Nat.add_zero
abbrev qf7:=@Nat.add_mul
abbrev qg0:=@List.take_succ_eq_append_getElem
abbrev qg1:=@List.drop_zero
abbrev qg2:=@Nat.add_assoc
abbrev qg3:=@Array.getElem?_toList
abbrev qg4:=@Go.World.ownsRow.alloc
abbrev qg5:=@List.reverse_append
abbrev qg6:=@List.map_nil
abbrev qg7:=@Array.length_toList
abbrev qh0:=@Go.World.size_alloc
abbrev qh1:=@Bool.not_eq_true'
abbrev qh2:=@Nat.mul_le_mul_right
abbrev qh3:=@List.mem_of_mem_drop
abbrev qh4:=@List.getElem?_of_mem
abbrev qh5:=@Go.World.frozen?_of_block
abbrev qh6:=@List.getElem?_drop
abbrev qh7:=@decide_eq_decide
abbrev ja0:=@beq_eq_false_iff_ne
abbrev ja1:=@Array.getElem?_modify
abbrev ja2:=@List.flatten_cons
abbrev ja3:=@List.mem_cons_self
abbrev ja4:=@Go.Value.agg.injEq
abbrev ja5:=@List.length_eq_one_iff
abbrev ja6:=@List.getElem?_set_self
abbrev ja7:=@Array.eq_empty_of_size_eq_zero
abbrev jb0:=@List.take_append_of_le_length
abbrev jb1:=@List.singleton_append
abbrev jb2:=@Go.Addr.mk.injEq
abbrev jb3:=@Go.bodyPost_ret
abbrev jb4:=@List.mem_filter
abbrev jb5:=@Option.getD_some
abbrev jb6:=@List.mem_cons_of_mem
abbrev jb7:=@List.mem_append_left
abbrev jc0:=@Go.World.ownsRow.frozenAt
abbrev jc1:=@List.take_add_one
abbrev jc2:=@Go.DataW.trod_int
abbrev jc3:=@Array.mk.injEq
abbrev jc4:=@Array.all_eq_true_iff_forall_mem
abbrev jc5:=@Go.ByteArray.toList_eq
abbrev jc6:=@Nat.min_eq_left
abbrev jc7:=@List.all_append
abbrev jd0:=@Bool.eq_iff_iff
abbrev jd1:=@List.length_replicate
abbrev jd2:=@Nat.mod_eq_of_lt
abbrev jd3:=@Array.getElem?_setIfInBounds_self_of_lt
abbrev jd4:=@Go.World.ownsRow_nil
abbrev jd5:=@List.size_toArray
abbrev jd6:=@Function.comp_def
abbrev jd7:=@List.take_left'
abbrev je0:=@List.length_set
abbrev je1:=@Int.natCast_add
abbrev je2:=@Go.World.grownBy_alloc
abbrev je3:=@Go.Sem.run_pure
abbrev je4:=@Nat.lt_or_ge
abbrev je5:=@ByteArray.data_extract
abbrev je6:=@List.sum_cons
abbrev je7:=@List.take_length
abbrev jf0:=@List.mapM_cons
abbrev jf1:=@List.set_append_right
abbrev jf2:=@List.eq_nil_or_concat
abbrev jf3:=@List.concat_eq_append
abbrev jf4:=@Except.ok.injEq
abbrev jf5:=@List.reverse_reverse
abbrev jf6:=@List.map_map
abbrev jf7:=@List.map_inj_left
abbrev jg0:=@Int.toNat_natCast
abbrev jg1:=@Go.info_parts
abbrev jg2:=@beq_iff_eq
abbrev jg3:=@Nat.lt_irrefl
abbrev jg4:=@Go.returnsInHanded_of_cond
abbrev jg5:=@Go.OpenClaim.holds_of_cond
abbrev jg6:=@Nat.and_two_pow_sub_one_eq_mod
abbrev jg7:=@List.take_take
abbrev jh0:=@List.flatMap_nil
abbrev jh1:=@List.drop_append_of_le_length
abbrev jh2:=@Nat.zero_mul
abbrev jh3:=@Nat.mul_comm
abbrev jh4:=@List.all_nil
abbrev jh5:=@Array.getElem?_eq_none
abbrev jh6:=@Nat.le_antisymm
abbrev jh7:=@Bool.false_or
abbrev ka0:=@Bool.and_true
abbrev ka1:=@List.mem_append_right
abbrev ka2:=@Bool.and_eq_false_iff
abbrev ka3:=@Go.ChangeShapes.trodAll_mk0
abbrev ka4:=@Go.heap_alloc_old
abbrev ka5:=@Nat.le_succ
abbrev ka6:=@Array.replicate_zero
abbrev ka7:=@Array.replicate_succ
