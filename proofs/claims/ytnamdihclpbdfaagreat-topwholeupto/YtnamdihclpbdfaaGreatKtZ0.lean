import Derived.ArgAppend
import Derived.ChangeKeysEq
import Derived.Deep.AppendLies
import Derived.Laws.AppendOwn
import Derived.Laws.Cells
import Derived.Laws.Entries
import Derived.Laws.IdiomCopy
import Derived.Laws.Rows
import Derived.OrdersHeld
import Derived.ProofKit
import Derived.Test.YtnamdihclpbdfaaGreatRows
import Derived.WalkKit
abbrev Go.Value.i (n:Int):Go.Value:=.int .i64 n
abbrev Go.Value.n0:Go.Value:=.slice none 0 0
abbrev Go.Value.o(g n c:Nat):Go.Value:=.slice (some ⟨g,0,none⟩) n c
abbrev Go.Value.po(g:Nat):Go.Value:=.pointer (some ⟨g,0,none⟩)
namespace Go.Proofs.YtnamdihclpbdfaaGreat
set_option linter.all false
open Go.Proofs.Tryz
theorem od{p:Prop}(h:p:=by omega):p:=h
theorem oe{p:Prop}(h:p:=by simp):p:=h
theorem ot{p:Prop}(h:p:=by simp;omega):p:=h
theorem ov{p:Prop}(h:p:=by decide):p:=h
theorem oA{p:Prop}(h:p:=by kernel_rfl):p:=h
theorem oB{p:Prop}(h:p:=by simp_all [okTs,okT,bD]):p:=h
theorem oE{p:Prop}(h:p:=by simp only[Ty.size,tysizes] at *;omega):p:=h
theorem oR{p:Prop}(h:p:=by unfold Func.isWrapper;first|(rw[if_pos (by decide +kernel)];kernel_rfl)|(rw[if_neg (by decide +kernel)];exact⟨rfl,rfl⟩)):p:=h
theorem oT{p:Prop}(h:p:=by simp[aW,Va.size,vsizes,tysizes,sizes]):p:=h
theorem oX{p:Prop}(h:p:=by simp[mkV,noneV,Va.size,vsizes,tysizes,sizes]):p:=h
theorem oY{p:Prop}(h:p:=by simp[Value.ownBlock]):p:=h
theorem Of{p:Prop}(h:p:=by simp[eY];omega):p:=h
theorem Ok{p:Prop}(h:p:=by rw[qY];simp;omega):p:=h
theorem On{p:Prop}(h:p:=by unfold bD;decide):p:=h
theorem OF{p:Prop}(h:p:=by assumption):p:=h
theorem OK{p:Prop}(h:p:=by rw[Hf];simp;omega):p:=h
theorem ON{p:Prop}(h:p:=by rw[yy];simp;omega):p:=h
theorem OR{p:Prop}(h:p:=by simp only[jj];omega):p:=h
theorem OS{p:Prop}(h:p:=by decide +kernel):p:=h
theorem Zs{p:Prop}(h:p:=by unfold Lf.fD;rw[if_neg (by decide),if_neg (by omega),if_neg (by simp[Lf.qM];rfl),if_neg (by omega),if_neg (by decide)]):p:=h
theorem ZD{p:Prop}(h:p:=by rw[qa2];simp;omega):p:=h
theorem ZS{p:Prop}(h:p:=by unfold Addr.add;split<;>simp_all):p:=h
theorem Xs{p:Prop}(h:p:=by dsimp only;omega):p:=h
theorem XS{p:Prop}(h:p:=by unfold maxLen;omega):p:=h
theorem Kd{p:Prop}(h:p:=by unfold bT;rw[if_neg (by omega),if_neg (by omega)]):p:=h
theorem Kf{p:Prop}(h:p:=by simp[aW,aZ,Va.size,vsizes,tysizes,sizes]):p:=h
theorem Ks{p:Prop}(h:p:=by simp[dI,standF,aJ,Ty.t]):p:=h
theorem Kx{p:Prop}(h:p:=by simp[vasD_map]):p:=h
theorem KK{p:Prop}(h:p:=by split<;>simp[mkV,aV,noneV,aW,Va.size,vsizes,tysizes,sizes]):p:=h
theorem Ys{p:Prop}(h:p:=by rw[jB];simp;omega):p:=h
theorem Up{p:Prop}(h:p:=by simp[results,Tryz.results184,go_sem]):p:=h
theorem UP{p:Prop}(h:p:=by rw[qY];omega):p:=h
theorem US{p:Prop}(h:p:=by rw[qa2];omega):p:=h
theorem vc{p:Prop}(h:p:=by simp only[jt,jj,ux];omega):p:=h
theorem vf{p:Prop}(h:p:=by simp only[Ah,zL,Gb,kE,qv,ju];omega):p:=h
theorem vh{p:Prop}(h:p:=by rw[qc0];omega):p:=h
theorem vj{p:Prop}(h:p:=by simp only[ux];unfold maxLen;omega):p:=h
theorem vl{p:Prop}(h:p:=by unfold fC;omega):p:=h
theorem vm{p:Prop}(h:p:=by simp[Act.eval,Act.put]):p:=h
theorem vp{p:Prop}(h:p:=by show 0<=m.paid;omega):p:=h
theorem vq{p:Prop}(h:p:=by unfold bD;omega):p:=h
theorem vu{p:Prop}(h:p:=by simp[X.keys]):p:=h
theorem vx{p:Prop}(h:p:=by simp[bO,standF,aJ,Ty.t]):p:=h
theorem vy{p:Prop}(h:p:=by simp only;omega):p:=h
theorem vA{p:Prop}(h:p:=by simp[Ty.t]):p:=h
theorem Vc{p:Prop}(h:p:=by rw[mg];omega):p:=h
theorem oa{c:Prop}[Decidable c]{α:Type _}{a b:α}(h:¬c:=by omega):ite c a b=b:=if_neg h
theorem oc{c:Prop}[Decidable c]{α:Type _}{a b:α}(h:c:=by omega):ite c a b=a:=if_pos h
abbrev cq:=@Go.World.grownBy
abbrev bj:=Option Addr
abbrev bo:=List Value
abbrev bp:=ByteArray
abbrev br:=Nat->Prop
abbrev bt:=Nat->Value
abbrev bw:=List UInt8
abbrev cg:=World
abbrev cm:=Value
open Go.ChangeShapes Go.WideShapes Go.ChangeAt Go.RowKit
def JT{d e p2:Prop}(a:d)(b:e)(c:p2):Hid d/\Hid e/\Hid p2:=⟨a,b,c⟩
def we{e f p2 g:Prop}(a:e)(b:f)(c:p2)(d:g):Hid e/\Hid f/\Hid p2/\Hid g:=⟨a,b,c,d⟩
def wb{f g p2 h i:Prop}(a:f)(b:g)(c:p2)(d:h)(e:i):Hid f/\Hid g/\Hid p2/\Hid h/\Hid i:=⟨a,b,c,d,e⟩
def wg{g h p2 i j k:Prop}(a:g)(b:h)(c:p2)(d:i)(e:j)(f:k):Hid g/\Hid h/\Hid p2/\Hid i/\Hid j/\Hid k:=⟨a,b,c,d,e,f⟩
def wk{h i p2 j k l m:Prop}(a:h)(b:i)(c:p2)(d:j)(e:k)(f:l)(g:m):Hid h/\Hid i/\Hid p2/\Hid j/\Hid k/\Hid l/\Hid m:=⟨a,b,c,d,e,f,g⟩
def wj{i j p2 k l m n o:Prop}(a:i)(b:j)(c:p2)(d:k)(e:l)(f:m)(g:n)(h:o):Hid i/\Hid j/\Hid p2/\Hid k/\Hid l/\Hid m/\Hid n/\Hid o:=⟨a,b,c,d,e,f,g,h⟩
def wq{j k p2 l m n o p p8:Prop}(a:j)(b:k)(c:p2)(d:l)(e:m)(f:n)(g:o)(h:p)(i:p8):Hid j/\Hid k/\Hid p2/\Hid l/\Hid m/\Hid n/\Hid o/\Hid p/\Hid p8:=⟨a,b,c,d,e,f,g,h,i⟩
abbrev qq:=@Option.some.injEq
abbrev qt:=@List.getElem?_eq_getElem
abbrev qu:=@List.mem_singleton
abbrev qv:=@Bool.and_eq_true
abbrev qS:=@List.getElem?_eq_some_iff
abbrev qT:=@Option.map_eq_some_iff
abbrev jj:=@List.length_cons
abbrev jn:=@Nat.le_refl
abbrev js:=@Prod.mk.injEq
abbrev jt:=@List.length_append
abbrev ju:=@decide_eq_true_eq
abbrev jx:=@List.eq_nil_of_length_eq_zero
abbrev jz:=@List.mem_of_getElem?
abbrev ka:=@Go.World.cell?_of_block
abbrev kd:=@Nat.lt_of_lt_of_le
abbrev ke:=@List.mem_append
abbrev kh:=@Array.getElem?_eq_some_iff
abbrev ki:=@List.all_eq_true
abbrev kj:=@List.mem_cons
abbrev kl:=@List.mem_map
abbrev km:=@List.getElem?_cons_zero
abbrev kB:=@List.drop_eq_getElem_cons
abbrev kO:=@decide_eq_true
abbrev zd:=@List.getElem?_append_left
abbrev zj:=@List.setIfInBounds_toArray
abbrev zE:=@decide_eq_false
abbrev xb:=@List.getElem?_append_right
abbrev xf:=@List.all_cons
abbrev xj:=@Nat.le_trans
abbrev xo:=@Go.heap_alloc_new
abbrev xF:=@List.set_cons_succ
abbrev xT:=@Go.Value.slice.injEq
abbrev yb:=@Nat.zero_le
abbrev ye:=@List.getElem_mem
abbrev yv:=@List.set_cons_zero
abbrev yy:=@List.length_map
abbrev yW:=@List.getElem?_cons_succ
abbrev ub:=@Array.getD_eq_getD_getElem?
abbrev ue:=@Bool.true_and
abbrev ux:=@List.length_nil
abbrev qa0:=@List.take_of_length_le
abbrev qa1:=@List.map_append
abbrev qa2:=@Go.IntKind.wrap_i64
abbrev qa3:=@List.append_nil
abbrev qa4:=@Go.run_underlying
abbrev qa5:=@List.append_assoc
abbrev qa6:=@Option.isNone_iff_eq_none
abbrev qa7:=@List.getElem?_map
abbrev qb0:=@List.mem_flatMap
abbrev qb1:=@List.length_reverse
abbrev qb2:=@Nat.zero_add
abbrev qb3:=@Go.World.ownsRow.lt
abbrev qb4:=@List.cons.injEq
abbrev qb5:=@Go.World.block_lt_of_cell?
abbrev qb6:=@Classical.byContradiction
abbrev qb7:=@List.drop_eq_nil_of_le
abbrev qc0:=@List.length_take
abbrev qc1:=@of_decide_eq_true
abbrev qc2:=@Go.Sem.run_bind
abbrev qc3:=@List.map_cons
abbrev qc4:=@List.getElem_of_mem
abbrev qc5:=@Array.getElem?_eq_getElem
abbrev qc6:=@Bool.false_eq_true
abbrev qc7:=@List.reverse_cons
abbrev qd0:=@List.flatMap_cons
abbrev qd1:=@List.take_append_drop
abbrev qd2:=@Go.World.ownsRow.kept
abbrev qd3:=@Go.World.ownsRow.cells
abbrev qd4:=@List.nodup_append
abbrev qd5:=@decide_eq_false_iff_not
abbrev qd6:=@List.cons_append
abbrev qd7:=@List.cons.inj
abbrev qe0:=@List.getElem?_take
abbrev qe1:=@List.nil_append
abbrev qe2:=@List.mem_of_mem_take
abbrev qe3:=@Bool.or_eq_true
abbrev qe4:=@List.length_singleton
abbrev qe5:=@Bool.false_and
abbrev qe6:=@Option.bind_eq_some_iff
abbrev qe7:=@List.not_mem_nil
abbrev qf0:=@Option.isSome_iff_exists
abbrev qf1:=@List.getElem?_set_ne
abbrev qf2:=@List.eq_of_mem_replicate
abbrev qf3:=@Int.le_refl
abbrev qf4:=@List.any_eq_true
abbrev qf5:=@Nat.add_zero
abbrev qf6:=@List.drop_zero
abbrev qf7:=@Nat.add_mul
abbrev qg0:=@Go.World.ownsRow.alloc
abbrev qg1:=@List.reverse_append
abbrev qg2:=@Option.map_some
abbrev qg3:=@Go.World.size_alloc
abbrev qg4:=@Nat.add_assoc
abbrev qg5:=@Bool.not_eq_true'
abbrev qg6:=@List.mem_of_mem_drop
abbrev qg7:=@List.getElem?_of_mem
abbrev qh0:=@Go.World.frozen?_of_block
abbrev qh1:=@List.map_nil
abbrev qh2:=@List.getElem?_drop
abbrev qh3:=@decide_eq_decide
abbrev qh4:=@beq_eq_false_iff_ne
abbrev qh5:=@Array.length_toList
abbrev qh6:=@Array.getElem?_toList
abbrev qh7:=@Array.getElem?_modify
abbrev ja0:=@Nat.mul_le_mul_right
abbrev ja1:=@Go.Value.agg.injEq
abbrev ja2:=@List.length_eq_one_iff
abbrev ja3:=@List.getElem?_set_self
abbrev ja4:=@Array.eq_empty_of_size_eq_zero
abbrev ja5:=@List.singleton_append
abbrev ja6:=@Go.Addr.mk.injEq
abbrev ja7:=@Go.bodyPost_ret
abbrev jb0:=@List.mem_filter
abbrev jb1:=@Option.getD_some
abbrev jb2:=@List.mem_append_left
abbrev jb3:=@Go.World.ownsRow.frozenAt
abbrev jb4:=@List.take_succ_eq_append_getElem
abbrev jb5:=@List.take_add_one
abbrev jb6:=@Go.DataW.trod_int
abbrev jb7:=@Array.mk.injEq
abbrev jc0:=@Array.all_eq_true_iff_forall_mem
abbrev jc1:=@Go.ByteArray.toList_eq
abbrev jc2:=@Nat.min_eq_left
abbrev jc3:=@List.all_append
abbrev jc4:=@Int.natCast_add
abbrev jc5:=@Bool.eq_iff_iff
abbrev jc6:=@Array.getElem?_setIfInBounds_self_of_lt
abbrev jc7:=@Go.returnsInHanded_of_cond
abbrev jd0:=@Go.World.ownsRow_nil
abbrev jd1:=@Go.OpenClaim.holds_of_cond
abbrev jd2:=@List.size_toArray
abbrev jd3:=@List.flatten_cons
abbrev jd4:=@Function.comp_def
abbrev jd5:=@List.take_left'
abbrev jd6:=@List.length_set
abbrev jd7:=@Go.Sem.run_pure
abbrev je0:=@ByteArray.data_extract
abbrev je1:=@Nat.mod_eq_of_lt
abbrev je2:=@List.take_length
abbrev je3:=@List.mem_cons_self
abbrev je4:=@List.mapM_cons
abbrev je5:=@List.set_append_right
abbrev je6:=@List.eq_nil_or_concat
abbrev je7:=@List.concat_eq_append
abbrev jf0:=@Except.ok.injEq
abbrev jf1:=@Go.ChangeShapes.trodAll_mk0
abbrev jf2:=@Nat.lt_or_ge
abbrev jf3:=@List.reverse_reverse
abbrev jf4:=@List.mem_cons_of_mem
abbrev jf5:=@List.map_map
abbrev jf6:=@List.map_inj_left
abbrev jf7:=@Go.info_parts
abbrev jg0:=@beq_iff_eq
abbrev jg1:=@Nat.lt_irrefl
abbrev jg2:=@Go.World.grownBy_alloc
abbrev jg3:=@Nat.and_two_pow_sub_one_eq_mod
abbrev jg4:=@List.take_take
abbrev jg5:=@List.flatMap_nil
abbrev jg6:=@List.take_append_of_le_length
abbrev jg7:=@Nat.zero_mul
abbrev jh0:=@Nat.mul_comm
abbrev jh1:=@List.all_nil
abbrev jh2:=@Array.getElem?_eq_none
abbrev jh3:=@Nat.le_antisymm
abbrev jh4:=@List.sum_cons
abbrev jh5:=@Bool.false_or
abbrev jh6:=@Bool.and_true
abbrev jh7:=@List.mem_append_right
abbrev ka0:=@Bool.and_eq_false_iff
abbrev ka1:=@Int.toNat_natCast
abbrev ka2:=@Go.heap_alloc_old
abbrev ka3:=@Nat.le_succ
abbrev ka4:=@Array.replicate_zero
abbrev ka5:=@Array.replicate_succ
abbrev ka6:=@Go.OpenSpec.witness
